import Derived.Test.YtanbgpmbccianaaSpecVV
import Derived.Deep.RegionWith
import Derived.Deep.RegionHeld3
import Derived.Deep.RegionHeldLaw
import Derived.Test.YtanbgpmbccianaaM3
import Derived.Deep.AppendLies
import Derived.Maps.AppendAt
import Derived.OneCell
import Derived.Below
namespace Go.Proofs.Ytanbgpmbccianaa
open Go.ChangeShapes Go.RowKit
set_option linter.unusedSimpArgs false
set_option linter.unusedVariables false

/-- A view as the program keeps it. -/
def vw (xs ss : List Int) (off : Int) : Array Value := #[.int .i64 xs.length, .int .i64 (xs.getD 0 0), .int .i64 (xs.getD 1 0), .int .i64 (xs.getD 2 0), .int .i64 (xs.getD 3 0), .int .i64 (ss.getD 0 0), .int .i64 (ss.getD 1 0), .int .i64 (ss.getD 2 0), .int .i64 (ss.getD 3 0), .int .i64 off]

def inB (xs ss : List Int) (off : Int) : Bool := decide (prod xs = 0 ∨ (0 ≤ least xs ss off ∧ most xs ss off < 4096))

theorem least_snoc : ∀ (xs ss : List Int) (n s a : Int), xs.length = ss.length → least (xs ++ [n]) (ss ++ [s]) a = least xs ss a + min (s * (n - 1)) 0
  | [], [], n, s, a, _ => by simp [least]
  | [], _ :: _, n, s, a, h => by simp at h
  | _ :: _, [], n, s, a, h => by simp at h
  | m :: ms, t :: ts, n, s, a, h => by
    simp only [List.cons_append, least]
    exact least_snoc ms ts n s _ (by simpa using h)
theorem most_snoc : ∀ (xs ss : List Int) (n s a : Int), xs.length = ss.length → most (xs ++ [n]) (ss ++ [s]) a = most xs ss a + max (s * (n - 1)) 0
  | [], [], n, s, a, _ => by simp [most]
  | [], _ :: _, n, s, a, h => by simp at h
  | _ :: _, [], n, s, a, h => by simp at h
  | m :: ms, t :: ts, n, s, a, h => by
    simp only [List.cons_append, most]
    exact most_snoc ms ts n s _ (by simpa using h)
theorem take_snoc (xs : List Int) (k : Nat) (hk : k < xs.length) : xs.take (k + 1) = xs.take k ++ [xs.getD k 0] := by
  rw [List.take_add_one, List.getElem?_eq_getElem hk, List.getD_eq_getElem?_getD, List.getElem?_eq_getElem hk]; rfl
theorem least_take (xs ss : List Int) (off : Int) (k : Nat) (hk : k < xs.length) (hl : ss.length = xs.length) :
    least (xs.take (k + 1)) (ss.take (k + 1)) off = least (xs.take k) (ss.take k) off + min (ss.getD k 0 * (xs.getD k 0 - 1)) 0 := by
  rw [take_snoc xs k hk, take_snoc ss k (by omega), least_snoc _ _ _ _ _ (by simp; omega)]
theorem most_take (xs ss : List Int) (off : Int) (k : Nat) (hk : k < xs.length) (hl : ss.length = xs.length) :
    most (xs.take (k + 1)) (ss.take (k + 1)) off = most (xs.take k) (ss.take k) off + max (ss.getD k 0 * (xs.getD k 0 - 1)) 0 := by
  rw [take_snoc xs k hk, take_snoc ss k (by omega), most_snoc _ _ _ _ _ (by simp; omega)]
theorem far_bd {n s : Int} (hn : 0 ≤ n ∧ n ≤ 4096) (hs : -4096 ≤ s ∧ s ≤ 4096) : -16777216 ≤ s * (n - 1) ∧ s * (n - 1) ≤ 16777216 := by
  by_cases h : n = 0
  · subst h; omega
  · have := mul_between (n - 1) 4096 s (by omega) (by omega)
    rw [Int.mul_comm s (n - 1)]
    omega
theorem ends_bd (xs ss : List Int) (off : Int) (hl : ss.length = xs.length) (hr : InR xs xs.length) (hs : InS ss ss.length) (ho : 0 ≤ off ∧ off ≤ 4096) :
    ∀ k, k ≤ xs.length → (-((k : Int) * 16777216) ≤ least (xs.take k) (ss.take k) off ∧ least (xs.take k) (ss.take k) off ≤ 4096 ∧ 0 ≤ most (xs.take k) (ss.take k) off ∧ most (xs.take k) (ss.take k) off ≤ 4096 + (k : Int) * 16777216)
  | 0, _ => by simp [least, most]; omega
  | k + 1, hk => by
    have ih := ends_bd xs ss off hl hr hs ho k (by omega)
    rw [least_take xs ss off k (by omega) hl, most_take xs ss off k (by omega) hl]
    have := far_bd (hr k (by omega)) (hs k (by omega))
    omega

set_option maxRecDepth 100000 in
set_option maxHeartbeats 2000000 in
theorem within_any (w : World) (xs ss : List Int) (off : Int) (h4 : xs.length ≤ 4) (hr : InR xs xs.length) (hl : ss.length = xs.length) (hs : InS ss ss.length) (ho : 0 ≤ off ∧ off ≤ 4096) :
    Calls Try.prog 30 #[.agg (vw xs ss off), .int .i64 4096] w fun e w' => e = .returned (.bool (inB xs ss off)) ∧ Ext w w' := by
  have hcnt := hide (fun W => count_any W xs h4 hr)
  have x0 : Ext w ((w.alloc (.cells (vw xs ss off) 58)).alloc (.cells (shp xs) 56)) := ((Ext.refl w).alloc _ _).alloc _ _
  have y0 : Ext (w.alloc (.cells (vw xs ss off) 58)) ((w.alloc (.cells (vw xs ss off) 58)).alloc (.cells (shp xs) 56)) := (Ext.refl _).alloc _ _
  have n1 := fun j => new_cell w (vw xs ss off) 58 w.heap.size rfl j
  have f0 := y0.box (n1 0)
  have f9 := y0.box (n1 9)
  have fl : ∀ j, j < 4 → ((w.alloc (.cells (vw xs ss off) 58)).alloc (.cells (shp xs) 56)).cell? ⟨w.heap.size, 1 + j, none⟩ = some (.int .i64 (xs.getD j 0)) := fun j hj => by
    obtain rfl | rfl | rfl | rfl : j = 0 ∨ j = 1 ∨ j = 2 ∨ j = 3 := by omega
    exact y0.box (n1 1)
    exact y0.box (n1 2)
    exact y0.box (n1 3)
    exact y0.box (n1 4)
  have fs : ∀ j, j < 4 → ((w.alloc (.cells (vw xs ss off) 58)).alloc (.cells (shp xs) 56)).cell? ⟨w.heap.size, 5 + j, none⟩ = some (.int .i64 (ss.getD j 0)) := fun j hj => by
    obtain rfl | rfl | rfl | rfl : j = 0 ∨ j = 1 ∨ j = 2 ∨ j = 3 := by omega
    exact y0.box (n1 5)
    exact y0.box (n1 6)
    exact y0.box (n1 7)
    exact y0.box (n1 8)
  have X0 := hide x0
  have FL := hide fl
  have FxS' := hide fs
  clear x0 y0 n1 fl fs
  unfold shp vw at *
  generalize xs.getD 0 0 = a0 at *
  generalize xs.getD 1 0 = a1 at *
  generalize xs.getD 2 0 = a2 at *
  generalize xs.getD 3 0 = a3 at *
  generalize ss.getD 0 0 = b0 at *
  generalize ss.getD 1 0 = b1 at *
  generalize ss.getD 2 0 = b2 at *
  generalize ss.getD 3 0 = b3 at *
  have h4' : (xs.length : Int) ≤ 4 := by omega
  have Hl := hide hl
  have HR := hide hr
  have HS := hide hs
  clear hl hr hs
  go_enter Try.func30, Try.ntmps30
  go_wp2_with fail
  refine (hcnt.out _).mono ?_
  rintro e w1 ⟨rfl, rfl⟩
  by_cases hp : prod xs = 0
  · have hyes : Hid (inB xs ss off = true) := decide_eq_true (Or.inl hp)
    rw [hp]
    go_wp2
    go_ret
    exact ⟨ret_bool hyes.out.symm, X0.out⟩
  · have hpn : (prod xs == 0) = false := by simp [hp]
    have hin : Hid (inB xs ss off = decide (0 ≤ least xs ss off ∧ most xs ss off < 4096)) := decide_eq_decide.2 ⟨fun q => q.resolve_left hp, Or.inr⟩
    generalize prod xs = P at hpn ⊢
    go_wp2_with fail
    generalize hW1 : (w.alloc (.cells #[.int .i64 xs.length, .int .i64 a0, .int .i64 a1, .int .i64 a2, .int .i64 a3, .int .i64 b0, .int .i64 b1, .int .i64 b2, .int .i64 b3, .int .i64 off] 58)).alloc (.cells #[.int .i64 xs.length, .int .i64 a0, .int .i64 a1, .int .i64 a2, .int .i64 a3] 56) = W1 at X0 FL FxS' f0 f9 ⊢
    clear hW1
    have g0 : W1.cell? ⟨w.heap.size, 0, none⟩ = some (.int .i64 xs.length) := f0
    have g9 : W1.cell? ⟨w.heap.size, 9, none⟩ = some (.int .i64 off) := f9
    clear f0 f9
    go_region
    all_goals go_wp2
    go_loopw [5, 6, 24] (fun a b i wr => ∃ k : Nat, i = .int .i64 k ∧ a = .int .i64 (least (xs.take k) (ss.take k) off) ∧ b = .int .i64 (most (xs.take k) (ss.take k) off) ∧ k ≤ xs.length ∧ Ext W1 wr) (fun a b i _ => xs.length - (intOf i).toNat)
    case atStart => exact ⟨0, rfl, by simp [least], by simp [most], by omega, (Ext.refl W1).drew⟩
    case round =>
      obtain ⟨k, rfl, rfl, rfl, hk, hx⟩ := hrel
      have HX := hide hx
      clear hx
      have hb := ends_bd xs ss off Hl.out HR.out HS.out ho k hk
      have hk4 : (k : Int) * 16777216 ≤ 67108864 := by omega
      by_cases hlt : k < xs.length
      · have q0 := HX.out.box (FL.out k (by omega))
        have q1 := HX.out.box (FxS'.out k (by omega))
        have hk0 : (0 : Int) ≤ (k : Int) := Int.natCast_nonneg _
        have hk1 : (k : Int) < (xs.length : Int) := by omega
        have hk44 : (k : Int) < 4 := by omega
        have hlt1 := least_take xs ss off k hlt Hl.out
        have hmt1 := most_take xs ss off k hlt Hl.out
        have hfar := far_bd (HR.out k hlt) (HS.out k (by have := Hl.out; omega))
        have hnr := HR.out k hlt
        generalize xs.getD k 0 = n at q0 hlt1 hmt1 hfar hnr
        generalize ss.getD k 0 = s at q1 hlt1 hmt1 hfar
        generalize hA : least (xs.take (k + 1)) (ss.take (k + 1)) off = A at hlt1
        generalize hB : most (xs.take (k + 1)) (ss.take (k + 1)) off = B at hmt1
        generalize least (xs.take k) (ss.take k) off = a at hlt1 hb ⊢
        generalize most (xs.take k) (ss.take k) off = b at hmt1 hb ⊢
        have HA := hide hA
        have HB := hide hB
        clear hA hB
        subst hlt1
        subst hmt1
        go_wp2
        refine ⟨⟨k + 1, by go_num, ?_, ?_, by omega, HX.out⟩, by simp [intOf]; omega⟩
        · rw [HA.out]
          have e : (if 0 < s * (n - 1) then 0 else s * (n - 1)) = min (s * (n - 1)) 0 := by split <;> omega
          rw [e]
        · rw [HB.out]
          have e : (if s * (n - 1) < 0 then 0 else s * (n - 1)) = max (s * (n - 1)) 0 := by split <;> omega
          rw [e]
      · have hkk : k = xs.length := by omega
        subst hkk
        have e1 : xs.take xs.length = xs := List.take_length
        have e2 : ss.take xs.length = ss := List.take_of_length_le (by have := Hl.out; omega)
        rw [e1, e2]
        clear hb e1 e2
        generalize least xs ss off = a at hin ⊢
        generalize most xs ss off = b at hin ⊢
        by_cases ha : 0 ≤ a
        · by_cases hb : b < 4096
          · have hv : Hid (inB xs ss off = true) := by show inB xs ss off = true; rw [hin.out]; exact decide_eq_true ⟨ha, hb⟩
            go_wp2
            go_ret
            exact ⟨by rw [hv.out]; first | rfl | simp [ha, hb], X0.out.trans HX.out⟩
          · have hv : Hid (inB xs ss off = false) := by show inB xs ss off = false; rw [hin.out]; exact decide_eq_false (fun q => hb q.2)
            go_wp2
            go_ret
            exact ⟨by rw [hv.out]; first | rfl | simp [ha, hb], X0.out.trans HX.out⟩
        · have hv : Hid (inB xs ss off = false) := by show inB xs ss off = false; rw [hin.out]; exact decide_eq_false (fun q => ha q.1)
          go_wp2
          go_ret
          exact ⟨by rw [hv.out]; first | rfl | simp [ha], X0.out.trans HX.out⟩
end Go.Proofs.Ytanbgpmbccianaa
namespace Go.Proofs.Ytanbgpmbccianaa
open Go.ChangeShapes Go.RowKit
set_option linter.unusedSimpArgs false
set_option linter.unusedVariables false

def FixVOk (w : World) (xs ss : List Int) (off : Int) (e : Ending) (w' : World) : Prop :=
  ∃ A : Array Value, e = .returned (.tuple #[.agg A, .bool (dcValidV xs ss off)]) ∧ (ValidV xs ss off → A = vw xs ss off) ∧ (∃ a0 a1 a2 a3 a4 a5 a6 a7 a8 a9 : Int, A = #[.int .i64 a0, .int .i64 a1, .int .i64 a2, .int .i64 a3, .int .i64 a4, .int .i64 a5, .int .i64 a6, .int .i64 a7, .int .i64 a8, .int .i64 a9]) ∧ Ext w w'

theorem bad_fv {w w' : World} {xs ss : List Int} {off : Int} (h : (dcValidV xs ss off) = false) (x : Ext w w') : FixVOk w xs ss off (.returned (.tuple #[.agg #[.int .i64 0, .int .i64 0, .int .i64 0, .int .i64 0, .int .i64 0, .int .i64 0, .int .i64 0, .int .i64 0, .int .i64 0, .int .i64 0], .bool false])) w' :=
  ⟨_, by rw [h], fun q => absurd q (of_decide_eq_false h), ⟨0, 0, 0, 0, 0, 0, 0, 0, 0, 0, rfl⟩, x⟩

theorem zs {W : World} {R : Nat} (h : ∀ j, j < 10 → W.cell? ⟨R, j, none⟩ = some (.int .i64 0)) (i : Nat) : ∀ j, j < 10 → (W.setCell ⟨R, i, none⟩ (.int .i64 0)).cell? ⟨R, j, none⟩ = some (.int .i64 0) := fun j hj => by
  by_cases e : i = j
  · subst e; exact World.cell?_setCell_same _ _ _ (h i hj)
  · rw [World.cell?_setCell_other _ _ _ _ (by intro h; simp only [Addr.mk.injEq] at h; omega)]; exact h j hj

/-- The world of the loop. -/
structure FVS (w wr : World) (B : Nat) (vS vT : Value) (xs ss : List Int) (off : Int) (k : Nat) : Prop where
  v1 : wr.cell? ⟨w.heap.size, 1, none⟩ = some vT
  r : ∀ j, j < 10 → wr.cell? ⟨w.heap.size + 1, j, none⟩ = some (.int .i64 0)
  f0 : wr.cell? ⟨B, 0, none⟩ = some (.int .i64 xs.length)
  fl : ∀ j, j < 4 → wr.cell? ⟨B, 1 + j, none⟩ = some (.int .i64 (xs.getD j 0))
  fs : ∀ j, j < 4 → wr.cell? ⟨B, 5 + j, none⟩ = some (.int .i64 (if j < k then ss.getD j 0 else 0))
  f9 : wr.cell? ⟨B, 9, none⟩ = some (.int .i64 off)
  ex : Ext w wr

theorem FVS.step {w wr : World} {B : Nat} {vS vT : Value} {xs ss : List Int} {off : Int} {k : Nat} (h : FVS w wr B vS vT xs ss off k) (hk : k < 4) (hB : w.heap.size + 1 < B) :
    FVS w (wr.setCell ⟨B, 5 + k, none⟩ (.int .i64 (ss.getD k 0))) B vS vT xs ss off (k + 1) := by
  have m : Mut B wr (wr.setCell ⟨B, 5 + k, none⟩ (.int .i64 (ss.getD k 0))) := (Mut.refl _ _).setCell _ _
  refine ⟨m.box (by omega) h.v1, fun j hj => m.box (by omega) (h.r j hj), ?_, fun j hj => ?_, fun j hj => ?_, ?_, h.ex.setCell (by show w.heap.size ≤ B; omega) _⟩
  · rw [World.cell?_setCell_other _ _ _ _ (by intro h; simp only [Addr.mk.injEq] at h; omega)]; exact h.f0
  · rw [World.cell?_setCell_other _ _ _ _ (by intro h; simp only [Addr.mk.injEq] at h; omega)]; exact h.fl j hj
  · by_cases e : j = k
    · subst e
      rw [if_pos (by omega)]
      exact World.cell?_setCell_same _ _ _ (h.fs j hj)
    · rw [World.cell?_setCell_other _ _ _ _ (by intro h; simp only [Addr.mk.injEq] at h; omega), h.fs j hj]
      by_cases h1 : j < k
      · rw [if_pos h1, if_pos (by omega)]
      · rw [if_neg h1, if_neg (by omega)]
  · rw [World.cell?_setCell_other _ _ _ _ (by intro h; simp only [Addr.mk.injEq] at h; omega)]; exact h.f9

set_option maxRecDepth 100000 in
set_option maxHeartbeats 1000000 in
/-- A view that is refused ahead of the loop over its strides. -/
theorem fixView_bad {w : World} {vS vT : Value} {xs ss : List Int} (hS : Ints w vS xs) (hT : Ints w vT ss) (off : Int) (lx : xs.length ≤ 1048576) (ls : ss.length ≤ 1048576) (hbad : ¬ (Good xs ∧ ss.length = xs.length ∧ (0 ≤ off ∧ off ≤ 4096))) :
    Calls Try.prog 17 #[.agg #[vS, vT, .int .i64 off]] w fun e w' => FixVOk w xs ss off e w' := by
  obtain ⟨sa, cap, rfl, rS⟩ := hS
  obtain ⟨ta, dap, rfl, rT⟩ := hT
  have x0 : Ext w ((w.alloc (.cells #[.slice sa xs.length cap, .slice ta ss.length dap, .int .i64 off] 25)).alloc (.cells #[.int .i64 0, .int .i64 0, .int .i64 0, .int .i64 0, .int .i64 0, .int .i64 0, .int .i64 0, .int .i64 0, .int .i64 0, .int .i64 0] 58)) := ((Ext.refl w).alloc _ _).alloc _ _
  have y0 : Ext (w.alloc (.cells #[.slice sa xs.length cap, .slice ta ss.length dap, .int .i64 off] 25)) ((w.alloc (.cells #[.slice sa xs.length cap, .slice ta ss.length dap, .int .i64 off] 25)).alloc (.cells #[.int .i64 0, .int .i64 0, .int .i64 0, .int .i64 0, .int .i64 0, .int .i64 0, .int .i64 0, .int .i64 0, .int .i64 0, .int .i64 0] 58)) := (Ext.refl _).alloc _ _
  have HS : Hid (Ints ((w.alloc (.cells #[.slice sa xs.length cap, .slice ta ss.length dap, .int .i64 off] 25)).alloc (.cells #[.int .i64 0, .int .i64 0, .int .i64 0, .int .i64 0, .int .i64 0, .int .i64 0, .int .i64 0, .int .i64 0, .int .i64 0, .int .i64 0] 58)) (.slice sa xs.length cap) xs) := Ints.ext ⟨sa, cap, rfl, rS⟩ x0
  have HT : Hid (Ints ((w.alloc (.cells #[.slice sa xs.length cap, .slice ta ss.length dap, .int .i64 off] 25)).alloc (.cells #[.int .i64 0, .int .i64 0, .int .i64 0, .int .i64 0, .int .i64 0, .int .i64 0, .int .i64 0, .int .i64 0, .int .i64 0, .int .i64 0] 58)) (.slice ta ss.length dap) ss) := Ints.ext ⟨ta, dap, rfl, rT⟩ x0
  have n1 := fun j => new_cell w #[.slice sa xs.length cap, .slice ta ss.length dap, .int .i64 off] 25 w.heap.size rfl j
  have n2 := fun j => new_cell (w.alloc (.cells #[.slice sa xs.length cap, .slice ta ss.length dap, .int .i64 off] 25)) #[.int .i64 0, .int .i64 0, .int .i64 0, .int .i64 0, .int .i64 0, .int .i64 0, .int .i64 0, .int .i64 0, .int .i64 0, .int .i64 0] 58 (w.heap.size + 1) (by simp) j
  have k0 := y0.box (n1 0)
  have k1 := y0.box (n1 1)
  have k2 := y0.box (n1 2)
  have z0 : ((w.alloc (.cells #[.slice sa xs.length cap, .slice ta ss.length dap, .int .i64 off] 25)).alloc (.cells #[.int .i64 0, .int .i64 0, .int .i64 0, .int .i64 0, .int .i64 0, .int .i64 0, .int .i64 0, .int .i64 0, .int .i64 0, .int .i64 0] 58)).cell? ⟨w.heap.size + 1, 0, none⟩ = some (.int .i64 0) := n2 0
  have z1 : ((w.alloc (.cells #[.slice sa xs.length cap, .slice ta ss.length dap, .int .i64 off] 25)).alloc (.cells #[.int .i64 0, .int .i64 0, .int .i64 0, .int .i64 0, .int .i64 0, .int .i64 0, .int .i64 0, .int .i64 0, .int .i64 0, .int .i64 0] 58)).cell? ⟨w.heap.size + 1, 1, none⟩ = some (.int .i64 0) := n2 1
  have z2 : ((w.alloc (.cells #[.slice sa xs.length cap, .slice ta ss.length dap, .int .i64 off] 25)).alloc (.cells #[.int .i64 0, .int .i64 0, .int .i64 0, .int .i64 0, .int .i64 0, .int .i64 0, .int .i64 0, .int .i64 0, .int .i64 0, .int .i64 0] 58)).cell? ⟨w.heap.size + 1, 2, none⟩ = some (.int .i64 0) := n2 2
  have z3 : ((w.alloc (.cells #[.slice sa xs.length cap, .slice ta ss.length dap, .int .i64 off] 25)).alloc (.cells #[.int .i64 0, .int .i64 0, .int .i64 0, .int .i64 0, .int .i64 0, .int .i64 0, .int .i64 0, .int .i64 0, .int .i64 0, .int .i64 0] 58)).cell? ⟨w.heap.size + 1, 3, none⟩ = some (.int .i64 0) := n2 3
  have z4 : ((w.alloc (.cells #[.slice sa xs.length cap, .slice ta ss.length dap, .int .i64 off] 25)).alloc (.cells #[.int .i64 0, .int .i64 0, .int .i64 0, .int .i64 0, .int .i64 0, .int .i64 0, .int .i64 0, .int .i64 0, .int .i64 0, .int .i64 0] 58)).cell? ⟨w.heap.size + 1, 4, none⟩ = some (.int .i64 0) := n2 4
  have z5 : ((w.alloc (.cells #[.slice sa xs.length cap, .slice ta ss.length dap, .int .i64 off] 25)).alloc (.cells #[.int .i64 0, .int .i64 0, .int .i64 0, .int .i64 0, .int .i64 0, .int .i64 0, .int .i64 0, .int .i64 0, .int .i64 0, .int .i64 0] 58)).cell? ⟨w.heap.size + 1, 5, none⟩ = some (.int .i64 0) := n2 5
  have z6 : ((w.alloc (.cells #[.slice sa xs.length cap, .slice ta ss.length dap, .int .i64 off] 25)).alloc (.cells #[.int .i64 0, .int .i64 0, .int .i64 0, .int .i64 0, .int .i64 0, .int .i64 0, .int .i64 0, .int .i64 0, .int .i64 0, .int .i64 0] 58)).cell? ⟨w.heap.size + 1, 6, none⟩ = some (.int .i64 0) := n2 6
  have z7 : ((w.alloc (.cells #[.slice sa xs.length cap, .slice ta ss.length dap, .int .i64 off] 25)).alloc (.cells #[.int .i64 0, .int .i64 0, .int .i64 0, .int .i64 0, .int .i64 0, .int .i64 0, .int .i64 0, .int .i64 0, .int .i64 0, .int .i64 0] 58)).cell? ⟨w.heap.size + 1, 7, none⟩ = some (.int .i64 0) := n2 7
  have z8 : ((w.alloc (.cells #[.slice sa xs.length cap, .slice ta ss.length dap, .int .i64 off] 25)).alloc (.cells #[.int .i64 0, .int .i64 0, .int .i64 0, .int .i64 0, .int .i64 0, .int .i64 0, .int .i64 0, .int .i64 0, .int .i64 0, .int .i64 0] 58)).cell? ⟨w.heap.size + 1, 8, none⟩ = some (.int .i64 0) := n2 8
  have z9 : ((w.alloc (.cells #[.slice sa xs.length cap, .slice ta ss.length dap, .int .i64 off] 25)).alloc (.cells #[.int .i64 0, .int .i64 0, .int .i64 0, .int .i64 0, .int .i64 0, .int .i64 0, .int .i64 0, .int .i64 0, .int .i64 0, .int .i64 0] 58)).cell? ⟨w.heap.size + 1, 9, none⟩ = some (.int .i64 0) := n2 9
  have HrT := hide rT
  have X0 := hide x0
  clear n1 n2 x0 y0 rS rT
  go_enter Try.func17, Try.ntmps17
  go_wp2_with fail
  refine (fixShape_any HS.out (by omega)).mono ?_
  rintro e w1 ⟨n, a0, a1, a2, a3, rfl, hX, x1⟩
  have y1 : Ext w1 (w1.alloc (.cells #[.int .i64 n, .int .i64 a0, .int .i64 a1, .int .i64 a2, .int .i64 a3] 56)) := (Ext.refl w1).alloc _ _
  have n3 := fun j => new_cell w1 #[.int .i64 n, .int .i64 a0, .int .i64 a1, .int .i64 a2, .int .i64 a3] 56 w1.heap.size rfl j
  have s0 : (w1.alloc (.cells #[.int .i64 n, .int .i64 a0, .int .i64 a1, .int .i64 a2, .int .i64 a3] 56)).cell? ⟨w1.heap.size, 0, none⟩ = some (.int .i64 n) := n3 0
  have s1 : (w1.alloc (.cells #[.int .i64 n, .int .i64 a0, .int .i64 a1, .int .i64 a2, .int .i64 a3] 56)).cell? ⟨w1.heap.size, 1, none⟩ = some (.int .i64 a0) := n3 1
  have s2 : (w1.alloc (.cells #[.int .i64 n, .int .i64 a0, .int .i64 a1, .int .i64 a2, .int .i64 a3] 56)).cell? ⟨w1.heap.size, 2, none⟩ = some (.int .i64 a1) := n3 2
  have s3 : (w1.alloc (.cells #[.int .i64 n, .int .i64 a0, .int .i64 a1, .int .i64 a2, .int .i64 a3] 56)).cell? ⟨w1.heap.size, 3, none⟩ = some (.int .i64 a2) := n3 3
  have s4 : (w1.alloc (.cells #[.int .i64 n, .int .i64 a0, .int .i64 a1, .int .i64 a2, .int .i64 a3] 56)).cell? ⟨w1.heap.size, 4, none⟩ = some (.int .i64 a3) := n3 4
  have v0 := x1.box k0
  have vv0 := y1.box v0
  have v1 := x1.box k1
  have vv1 := y1.box v1
  have v2 := x1.box k2
  have vv2 := y1.box v2
  have r0 := x1.box z0
  have r1 := x1.box z1
  have r2 := x1.box z2
  have r3 := x1.box z3
  have r4 := x1.box z4
  have r5 := x1.box z5
  have r6 := x1.box z6
  have r7 := x1.box z7
  have r8 := x1.box z8
  have r9 := x1.box z9
  have X1 := hide ((X0.out.trans x1).trans y1)
  have hB1 : w.heap.size + 1 < w1.heap.size := cell_lt (x1.box z0)
  have HX := hide hX
  have Hr : Hid (∀ j, j < 10 → w1.cell? ⟨w.heap.size + 1, j, none⟩ = some (.int .i64 0)) := fun j hj => by
    obtain rfl | rfl | rfl | rfl | rfl | rfl | rfl | rfl | rfl | rfl : j = 0 ∨ j = 1 ∨ j = 2 ∨ j = 3 ∨ j = 4 ∨ j = 5 ∨ j = 6 ∨ j = 7 ∨ j = 8 ∨ j = 9 := by omega
    all_goals assumption
  have XW1 := hide (X0.out.trans x1)
  have rf := fun o => (X0.out.trans x1).unfrozen (b := w.heap.size + 1) (by omega) o
  clear hX n3 k0 k1 k2 y1 x1 HS HT z0 z1 z2 z3 z4 z5 z6 z7 z8 z9
  cases hg : goodB xs
  · have Hno : Hid ((dcValidV xs ss off) = false) := decide_eq_false (fun q => absurd q.1 (of_decide_eq_false hg))
    go_wp2
    have Zz := (zs (zs (zs (zs (zs (zs (zs (zs (zs (zs Hr.out 0) 1) 2) 3) 4) 5) 6) 7) 8) 9)
    have e0 := ((Ext.refl _).alloc #[.int .i64 n, .int .i64 a0, .int .i64 a1, .int .i64 a2, .int .i64 a3] 56).box (Zz 0 (by omega))
    have e1 := ((Ext.refl _).alloc #[.int .i64 n, .int .i64 a0, .int .i64 a1, .int .i64 a2, .int .i64 a3] 56).box (Zz 1 (by omega))
    have e2 := ((Ext.refl _).alloc #[.int .i64 n, .int .i64 a0, .int .i64 a1, .int .i64 a2, .int .i64 a3] 56).box (Zz 2 (by omega))
    have e3 := ((Ext.refl _).alloc #[.int .i64 n, .int .i64 a0, .int .i64 a1, .int .i64 a2, .int .i64 a3] 56).box (Zz 3 (by omega))
    have e4 := ((Ext.refl _).alloc #[.int .i64 n, .int .i64 a0, .int .i64 a1, .int .i64 a2, .int .i64 a3] 56).box (Zz 4 (by omega))
    have e5 := ((Ext.refl _).alloc #[.int .i64 n, .int .i64 a0, .int .i64 a1, .int .i64 a2, .int .i64 a3] 56).box (Zz 5 (by omega))
    have e6 := ((Ext.refl _).alloc #[.int .i64 n, .int .i64 a0, .int .i64 a1, .int .i64 a2, .int .i64 a3] 56).box (Zz 6 (by omega))
    have e7 := ((Ext.refl _).alloc #[.int .i64 n, .int .i64 a0, .int .i64 a1, .int .i64 a2, .int .i64 a3] 56).box (Zz 7 (by omega))
    have e8 := ((Ext.refl _).alloc #[.int .i64 n, .int .i64 a0, .int .i64 a1, .int .i64 a2, .int .i64 a3] 56).box (Zz 8 (by omega))
    have e9 := ((Ext.refl _).alloc #[.int .i64 n, .int .i64 a0, .int .i64 a1, .int .i64 a2, .int .i64 a3] 56).box (Zz 9 (by omega))
    exact bodyPost_ret (v := .tuple #[.agg #[.int .i64 0, .int .i64 0, .int .i64 0, .int .i64 0, .int .i64 0, .int .i64 0, .int .i64 0, .int .i64 0, .int .i64 0, .int .i64 0], .bool false]) (by simp [results, Try.results17, go_sem, e0, e1, e2, e3, e4, e5, e6, e7, e8, e9]) rfl (bad_fv Hno.out (by repeat (first | with_reducible exact XW1.out | with_reducible apply Ext.alloc | with_reducible refine Ext.setCell ?_ (by show w.heap.size ≤ w.heap.size + 1; omega) _)))
  have hgood : Good xs := of_decide_eq_true hg
  obtain ⟨en, e0, e1, e2, e3⟩ := HX.out hgood
  have hx4 := hgood.1
  by_cases hl : ss.length = xs.length
  · by_cases ho : 0 ≤ off ∧ off ≤ 4096
    · exact absurd ⟨hgood, hl, ho⟩ hbad
    · have Hno : Hid ((dcValidV xs ss off) = false) := decide_eq_false (fun q => ho q.2.2.1)
      have hln : (ss.length : Int) = n := by omega
      have hor : off < 0 ∨ (¬ off < 0 ∧ 4096 < off) := by omega
      clear en e0 e1 e2 e3 HX hgood hl ho
      rcases hor with o1 | ⟨o1, o2⟩
      all_goals
        go_wp2
        have Zz := (zs (zs (zs (zs (zs (zs (zs (zs (zs (zs Hr.out 0) 1) 2) 3) 4) 5) 6) 7) 8) 9)
        have e0 := ((Ext.refl _).alloc #[.int .i64 n, .int .i64 a0, .int .i64 a1, .int .i64 a2, .int .i64 a3] 56).box (Zz 0 (by omega))
        have e1 := ((Ext.refl _).alloc #[.int .i64 n, .int .i64 a0, .int .i64 a1, .int .i64 a2, .int .i64 a3] 56).box (Zz 1 (by omega))
        have e2 := ((Ext.refl _).alloc #[.int .i64 n, .int .i64 a0, .int .i64 a1, .int .i64 a2, .int .i64 a3] 56).box (Zz 2 (by omega))
        have e3 := ((Ext.refl _).alloc #[.int .i64 n, .int .i64 a0, .int .i64 a1, .int .i64 a2, .int .i64 a3] 56).box (Zz 3 (by omega))
        have e4 := ((Ext.refl _).alloc #[.int .i64 n, .int .i64 a0, .int .i64 a1, .int .i64 a2, .int .i64 a3] 56).box (Zz 4 (by omega))
        have e5 := ((Ext.refl _).alloc #[.int .i64 n, .int .i64 a0, .int .i64 a1, .int .i64 a2, .int .i64 a3] 56).box (Zz 5 (by omega))
        have e6 := ((Ext.refl _).alloc #[.int .i64 n, .int .i64 a0, .int .i64 a1, .int .i64 a2, .int .i64 a3] 56).box (Zz 6 (by omega))
        have e7 := ((Ext.refl _).alloc #[.int .i64 n, .int .i64 a0, .int .i64 a1, .int .i64 a2, .int .i64 a3] 56).box (Zz 7 (by omega))
        have e8 := ((Ext.refl _).alloc #[.int .i64 n, .int .i64 a0, .int .i64 a1, .int .i64 a2, .int .i64 a3] 56).box (Zz 8 (by omega))
        have e9 := ((Ext.refl _).alloc #[.int .i64 n, .int .i64 a0, .int .i64 a1, .int .i64 a2, .int .i64 a3] 56).box (Zz 9 (by omega))
        exact bodyPost_ret (v := .tuple #[.agg #[.int .i64 0, .int .i64 0, .int .i64 0, .int .i64 0, .int .i64 0, .int .i64 0, .int .i64 0, .int .i64 0, .int .i64 0, .int .i64 0], .bool false]) (by simp [results, Try.results17, go_sem, e0, e1, e2, e3, e4, e5, e6, e7, e8, e9]) rfl (bad_fv Hno.out (by repeat (first | with_reducible exact XW1.out | with_reducible apply Ext.alloc | with_reducible refine Ext.setCell ?_ (by show w.heap.size ≤ w.heap.size + 1; omega) _)))
  · have Hno : Hid ((dcValidV xs ss off) = false) := decide_eq_false (fun q => hl q.2.1)
    have hln : ¬ (ss.length : Int) = n := by omega
    clear en e0 e1 e2 e3 HX hgood hl
    go_wp2
    have Zz := (zs (zs (zs (zs (zs (zs (zs (zs (zs (zs Hr.out 0) 1) 2) 3) 4) 5) 6) 7) 8) 9)
    have e0 := ((Ext.refl _).alloc #[.int .i64 n, .int .i64 a0, .int .i64 a1, .int .i64 a2, .int .i64 a3] 56).box (Zz 0 (by omega))
    have e1 := ((Ext.refl _).alloc #[.int .i64 n, .int .i64 a0, .int .i64 a1, .int .i64 a2, .int .i64 a3] 56).box (Zz 1 (by omega))
    have e2 := ((Ext.refl _).alloc #[.int .i64 n, .int .i64 a0, .int .i64 a1, .int .i64 a2, .int .i64 a3] 56).box (Zz 2 (by omega))
    have e3 := ((Ext.refl _).alloc #[.int .i64 n, .int .i64 a0, .int .i64 a1, .int .i64 a2, .int .i64 a3] 56).box (Zz 3 (by omega))
    have e4 := ((Ext.refl _).alloc #[.int .i64 n, .int .i64 a0, .int .i64 a1, .int .i64 a2, .int .i64 a3] 56).box (Zz 4 (by omega))
    have e5 := ((Ext.refl _).alloc #[.int .i64 n, .int .i64 a0, .int .i64 a1, .int .i64 a2, .int .i64 a3] 56).box (Zz 5 (by omega))
    have e6 := ((Ext.refl _).alloc #[.int .i64 n, .int .i64 a0, .int .i64 a1, .int .i64 a2, .int .i64 a3] 56).box (Zz 6 (by omega))
    have e7 := ((Ext.refl _).alloc #[.int .i64 n, .int .i64 a0, .int .i64 a1, .int .i64 a2, .int .i64 a3] 56).box (Zz 7 (by omega))
    have e8 := ((Ext.refl _).alloc #[.int .i64 n, .int .i64 a0, .int .i64 a1, .int .i64 a2, .int .i64 a3] 56).box (Zz 8 (by omega))
    have e9 := ((Ext.refl _).alloc #[.int .i64 n, .int .i64 a0, .int .i64 a1, .int .i64 a2, .int .i64 a3] 56).box (Zz 9 (by omega))
    exact bodyPost_ret (v := .tuple #[.agg #[.int .i64 0, .int .i64 0, .int .i64 0, .int .i64 0, .int .i64 0, .int .i64 0, .int .i64 0, .int .i64 0, .int .i64 0, .int .i64 0], .bool false]) (by simp [results, Try.results17, go_sem, e0, e1, e2, e3, e4, e5, e6, e7, e8, e9]) rfl (bad_fv Hno.out (by repeat (first | with_reducible exact XW1.out | with_reducible apply Ext.alloc | with_reducible refine Ext.setCell ?_ (by show w.heap.size ≤ w.heap.size + 1; omega) _)))
end Go.Proofs.Ytanbgpmbccianaa
namespace Go.Proofs.Ytanbgpmbccianaa
open Go.ChangeShapes Go.RowKit
set_option linter.unusedSimpArgs false
set_option linter.unusedVariables false

theorem far1 {W : World} {R B i j : Nat} {v u : Value} (hne : R ≠ B) (h : W.cell? ⟨B, j, none⟩ = some u) : (W.setCell ⟨R, i, none⟩ v).cell? ⟨B, j, none⟩ = some u := by
  rw [World.cell?_setCell_other _ _ _ _ (by intro h; simp only [Addr.mk.injEq] at h; omega)]; exact h

theorem far10 {W : World} {R B j : Nat} {v0 v1 v2 v3 v4 v5 v6 v7 v8 v9 u : Value} (hne : R ≠ B) (h : W.cell? ⟨B, j, none⟩ = some u) :
    ((((((((((W.setCell ⟨R, 0, none⟩ v0).setCell ⟨R, 1, none⟩ v1).setCell ⟨R, 2, none⟩ v2).setCell ⟨R, 3, none⟩ v3).setCell ⟨R, 4, none⟩ v4).setCell ⟨R, 5, none⟩ v5).setCell ⟨R, 6, none⟩ v6).setCell ⟨R, 7, none⟩ v7).setCell ⟨R, 8, none⟩ v8).setCell ⟨R, 9, none⟩ v9).cell? ⟨B, j, none⟩ = some u :=
  far1 hne (far1 hne (far1 hne (far1 hne (far1 hne (far1 hne (far1 hne (far1 hne (far1 hne (far1 hne h)))))))))

theorem zt {W : World} {R : Nat} {f : Nat → Value} (h : ∀ j, j < 10 → W.cell? ⟨R, j, none⟩ = some (f j)) (i : Nat) (v : Value) : ∀ j, j < 10 → (W.setCell ⟨R, i, none⟩ v).cell? ⟨R, j, none⟩ = some (if i = j then v else f j) := fun j hj => by
  by_cases e : i = j
  · subst e; rw [if_pos rfl]; exact World.cell?_setCell_same _ _ _ (h i hj)
  · rw [if_neg e, World.cell?_setCell_other _ _ _ _ (by intro h; simp only [Addr.mk.injEq] at h; omega)]; exact h j hj

set_option maxRecDepth 100000 in
set_option maxHeartbeats 16000000 in
theorem fixView_good {w : World} {vS vT : Value} {xs ss : List Int} (hS : Ints w vS xs) (hT : Ints w vT ss) (off : Int) (lx : xs.length ≤ 1048576) (ls : ss.length ≤ 1048576) (hgood : Good xs) (hl : ss.length = xs.length) (ho : 0 ≤ off ∧ off ≤ 4096) :
    Calls Try.prog 17 #[.agg #[vS, vT, .int .i64 off]] w fun e w' => FixVOk w xs ss off e w' := by
  have Hl := hide hl
  have Hgood := hide hgood
  clear hl hgood
  obtain ⟨sa, cap, rfl, rS⟩ := hS
  obtain ⟨ta, dap, rfl, rT⟩ := hT
  have x0 : Ext w ((w.alloc (.cells #[.slice sa xs.length cap, .slice ta ss.length dap, .int .i64 off] 25)).alloc (.cells #[.int .i64 0, .int .i64 0, .int .i64 0, .int .i64 0, .int .i64 0, .int .i64 0, .int .i64 0, .int .i64 0, .int .i64 0, .int .i64 0] 58)) := ((Ext.refl w).alloc _ _).alloc _ _
  have y0 : Ext (w.alloc (.cells #[.slice sa xs.length cap, .slice ta ss.length dap, .int .i64 off] 25)) ((w.alloc (.cells #[.slice sa xs.length cap, .slice ta ss.length dap, .int .i64 off] 25)).alloc (.cells #[.int .i64 0, .int .i64 0, .int .i64 0, .int .i64 0, .int .i64 0, .int .i64 0, .int .i64 0, .int .i64 0, .int .i64 0, .int .i64 0] 58)) := (Ext.refl _).alloc _ _
  have HS : Hid (Ints ((w.alloc (.cells #[.slice sa xs.length cap, .slice ta ss.length dap, .int .i64 off] 25)).alloc (.cells #[.int .i64 0, .int .i64 0, .int .i64 0, .int .i64 0, .int .i64 0, .int .i64 0, .int .i64 0, .int .i64 0, .int .i64 0, .int .i64 0] 58)) (.slice sa xs.length cap) xs) := Ints.ext ⟨sa, cap, rfl, rS⟩ x0
  have HT : Hid (Ints ((w.alloc (.cells #[.slice sa xs.length cap, .slice ta ss.length dap, .int .i64 off] 25)).alloc (.cells #[.int .i64 0, .int .i64 0, .int .i64 0, .int .i64 0, .int .i64 0, .int .i64 0, .int .i64 0, .int .i64 0, .int .i64 0, .int .i64 0] 58)) (.slice ta ss.length dap) ss) := Ints.ext ⟨ta, dap, rfl, rT⟩ x0
  have n1 := fun j => new_cell w #[.slice sa xs.length cap, .slice ta ss.length dap, .int .i64 off] 25 w.heap.size rfl j
  have n2 := fun j => new_cell (w.alloc (.cells #[.slice sa xs.length cap, .slice ta ss.length dap, .int .i64 off] 25)) #[.int .i64 0, .int .i64 0, .int .i64 0, .int .i64 0, .int .i64 0, .int .i64 0, .int .i64 0, .int .i64 0, .int .i64 0, .int .i64 0] 58 (w.heap.size + 1) (by simp) j
  have k0 := y0.box (n1 0)
  have k1 := y0.box (n1 1)
  have k2 := y0.box (n1 2)
  have z0 : ((w.alloc (.cells #[.slice sa xs.length cap, .slice ta ss.length dap, .int .i64 off] 25)).alloc (.cells #[.int .i64 0, .int .i64 0, .int .i64 0, .int .i64 0, .int .i64 0, .int .i64 0, .int .i64 0, .int .i64 0, .int .i64 0, .int .i64 0] 58)).cell? ⟨w.heap.size + 1, 0, none⟩ = some (.int .i64 0) := n2 0
  have z1 : ((w.alloc (.cells #[.slice sa xs.length cap, .slice ta ss.length dap, .int .i64 off] 25)).alloc (.cells #[.int .i64 0, .int .i64 0, .int .i64 0, .int .i64 0, .int .i64 0, .int .i64 0, .int .i64 0, .int .i64 0, .int .i64 0, .int .i64 0] 58)).cell? ⟨w.heap.size + 1, 1, none⟩ = some (.int .i64 0) := n2 1
  have z2 : ((w.alloc (.cells #[.slice sa xs.length cap, .slice ta ss.length dap, .int .i64 off] 25)).alloc (.cells #[.int .i64 0, .int .i64 0, .int .i64 0, .int .i64 0, .int .i64 0, .int .i64 0, .int .i64 0, .int .i64 0, .int .i64 0, .int .i64 0] 58)).cell? ⟨w.heap.size + 1, 2, none⟩ = some (.int .i64 0) := n2 2
  have z3 : ((w.alloc (.cells #[.slice sa xs.length cap, .slice ta ss.length dap, .int .i64 off] 25)).alloc (.cells #[.int .i64 0, .int .i64 0, .int .i64 0, .int .i64 0, .int .i64 0, .int .i64 0, .int .i64 0, .int .i64 0, .int .i64 0, .int .i64 0] 58)).cell? ⟨w.heap.size + 1, 3, none⟩ = some (.int .i64 0) := n2 3
  have z4 : ((w.alloc (.cells #[.slice sa xs.length cap, .slice ta ss.length dap, .int .i64 off] 25)).alloc (.cells #[.int .i64 0, .int .i64 0, .int .i64 0, .int .i64 0, .int .i64 0, .int .i64 0, .int .i64 0, .int .i64 0, .int .i64 0, .int .i64 0] 58)).cell? ⟨w.heap.size + 1, 4, none⟩ = some (.int .i64 0) := n2 4
  have z5 : ((w.alloc (.cells #[.slice sa xs.length cap, .slice ta ss.length dap, .int .i64 off] 25)).alloc (.cells #[.int .i64 0, .int .i64 0, .int .i64 0, .int .i64 0, .int .i64 0, .int .i64 0, .int .i64 0, .int .i64 0, .int .i64 0, .int .i64 0] 58)).cell? ⟨w.heap.size + 1, 5, none⟩ = some (.int .i64 0) := n2 5
  have z6 : ((w.alloc (.cells #[.slice sa xs.length cap, .slice ta ss.length dap, .int .i64 off] 25)).alloc (.cells #[.int .i64 0, .int .i64 0, .int .i64 0, .int .i64 0, .int .i64 0, .int .i64 0, .int .i64 0, .int .i64 0, .int .i64 0, .int .i64 0] 58)).cell? ⟨w.heap.size + 1, 6, none⟩ = some (.int .i64 0) := n2 6
  have z7 : ((w.alloc (.cells #[.slice sa xs.length cap, .slice ta ss.length dap, .int .i64 off] 25)).alloc (.cells #[.int .i64 0, .int .i64 0, .int .i64 0, .int .i64 0, .int .i64 0, .int .i64 0, .int .i64 0, .int .i64 0, .int .i64 0, .int .i64 0] 58)).cell? ⟨w.heap.size + 1, 7, none⟩ = some (.int .i64 0) := n2 7
  have z8 : ((w.alloc (.cells #[.slice sa xs.length cap, .slice ta ss.length dap, .int .i64 off] 25)).alloc (.cells #[.int .i64 0, .int .i64 0, .int .i64 0, .int .i64 0, .int .i64 0, .int .i64 0, .int .i64 0, .int .i64 0, .int .i64 0, .int .i64 0] 58)).cell? ⟨w.heap.size + 1, 8, none⟩ = some (.int .i64 0) := n2 8
  have z9 : ((w.alloc (.cells #[.slice sa xs.length cap, .slice ta ss.length dap, .int .i64 off] 25)).alloc (.cells #[.int .i64 0, .int .i64 0, .int .i64 0, .int .i64 0, .int .i64 0, .int .i64 0, .int .i64 0, .int .i64 0, .int .i64 0, .int .i64 0] 58)).cell? ⟨w.heap.size + 1, 9, none⟩ = some (.int .i64 0) := n2 9
  have HrT := hide rT
  have X0 := hide x0
  clear n1 n2 x0 y0 rS rT
  go_enter Try.func17, Try.ntmps17
  go_wp2_with fail
  refine (fixShape_any HS.out (by omega)).mono ?_
  rintro e w1 ⟨n, a0, a1, a2, a3, rfl, hX, x1⟩
  have y1 : Ext w1 (w1.alloc (.cells #[.int .i64 n, .int .i64 a0, .int .i64 a1, .int .i64 a2, .int .i64 a3] 56)) := (Ext.refl w1).alloc _ _
  have n3 := fun j => new_cell w1 #[.int .i64 n, .int .i64 a0, .int .i64 a1, .int .i64 a2, .int .i64 a3] 56 w1.heap.size rfl j
  have s0 : (w1.alloc (.cells #[.int .i64 n, .int .i64 a0, .int .i64 a1, .int .i64 a2, .int .i64 a3] 56)).cell? ⟨w1.heap.size, 0, none⟩ = some (.int .i64 n) := n3 0
  have s1 : (w1.alloc (.cells #[.int .i64 n, .int .i64 a0, .int .i64 a1, .int .i64 a2, .int .i64 a3] 56)).cell? ⟨w1.heap.size, 1, none⟩ = some (.int .i64 a0) := n3 1
  have s2 : (w1.alloc (.cells #[.int .i64 n, .int .i64 a0, .int .i64 a1, .int .i64 a2, .int .i64 a3] 56)).cell? ⟨w1.heap.size, 2, none⟩ = some (.int .i64 a1) := n3 2
  have s3 : (w1.alloc (.cells #[.int .i64 n, .int .i64 a0, .int .i64 a1, .int .i64 a2, .int .i64 a3] 56)).cell? ⟨w1.heap.size, 3, none⟩ = some (.int .i64 a2) := n3 3
  have s4 : (w1.alloc (.cells #[.int .i64 n, .int .i64 a0, .int .i64 a1, .int .i64 a2, .int .i64 a3] 56)).cell? ⟨w1.heap.size, 4, none⟩ = some (.int .i64 a3) := n3 4
  have v0 := x1.box k0
  have vv0 := y1.box v0
  have v1 := x1.box k1
  have vv1 := y1.box v1
  have v2 := x1.box k2
  have vv2 := y1.box v2
  have r0 := x1.box z0
  have r1 := x1.box z1
  have r2 := x1.box z2
  have r3 := x1.box z3
  have r4 := x1.box z4
  have r5 := x1.box z5
  have r6 := x1.box z6
  have r7 := x1.box z7
  have r8 := x1.box z8
  have r9 := x1.box z9
  have X1 := hide ((X0.out.trans x1).trans y1)
  have hB1 : w.heap.size + 1 < w1.heap.size := cell_lt (x1.box z0)
  have HX := hide hX
  have Hr : Hid (∀ j, j < 10 → w1.cell? ⟨w.heap.size + 1, j, none⟩ = some (.int .i64 0)) := fun j hj => by
    obtain rfl | rfl | rfl | rfl | rfl | rfl | rfl | rfl | rfl | rfl : j = 0 ∨ j = 1 ∨ j = 2 ∨ j = 3 ∨ j = 4 ∨ j = 5 ∨ j = 6 ∨ j = 7 ∨ j = 8 ∨ j = 9 := by omega
    all_goals assumption
  have XW1 := hide (X0.out.trans x1)
  have rf := fun o => (X0.out.trans x1).unfrozen (b := w.heap.size + 1) (by omega) o
  clear hX n3 k0 k1 k2 y1 x1 HS HT z0 z1 z2 z3 z4 z5 z6 z7 z8 z9
  have hg : goodB xs = true := decide_eq_true Hgood.out
  obtain ⟨en, e0, e1, e2, e3⟩ := HX.out Hgood.out
  have hx4 := Hgood.out.1
  have e12 : Ext (w1.alloc (.cells #[.int .i64 n, .int .i64 a0, .int .i64 a1, .int .i64 a2, .int .i64 a3] 56)) ((w1.alloc (.cells #[.int .i64 n, .int .i64 a0, .int .i64 a1, .int .i64 a2, .int .i64 a3] 56)).alloc (.cells #[.int .i64 n, .int .i64 a0, .int .i64 a1, .int .i64 a2, .int .i64 a3, .int .i64 0, .int .i64 0, .int .i64 0, .int .i64 0, .int .i64 off] 58)) := (Ext.refl _).alloc _ _
  have nf := fun j => new_cell (w1.alloc (.cells #[.int .i64 n, .int .i64 a0, .int .i64 a1, .int .i64 a2, .int .i64 a3] 56)) #[.int .i64 n, .int .i64 a0, .int .i64 a1, .int .i64 a2, .int .i64 a3, .int .i64 0, .int .i64 0, .int .i64 0, .int .i64 0, .int .i64 off] 58 (w1.heap.size + 1) (by simp) j
  have S0 : FVS w ((w1.alloc (.cells #[.int .i64 n, .int .i64 a0, .int .i64 a1, .int .i64 a2, .int .i64 a3] 56)).alloc (.cells #[.int .i64 n, .int .i64 a0, .int .i64 a1, .int .i64 a2, .int .i64 a3, .int .i64 0, .int .i64 0, .int .i64 0, .int .i64 0, .int .i64 off] 58)) (w1.heap.size + 1) (.slice sa xs.length cap) (.slice ta ss.length dap) xs ss off 0 := by
    refine ⟨e12.box vv1, fun j hj => e12.box (((Ext.refl w1).alloc _ _).box (Hr.out j hj)), ?_, fun j hj => ?_, fun j hj => ?_, nf 9, X1.out.trans e12⟩
    · rw [← en]; exact nf 0
    · obtain rfl | rfl | rfl | rfl : j = 0 ∨ j = 1 ∨ j = 2 ∨ j = 3 := by omega
      · rw [← e0]; exact nf 1
      · rw [← e1]; exact nf 2
      · rw [← e2]; exact nf 3
      · rw [← e3]; exact nf 4
    · rw [if_neg (by omega)]
      obtain rfl | rfl | rfl | rfl : j = 0 ∨ j = 1 ∨ j = 2 ∨ j = 3 := by omega
      · exact nf 5
      · exact nf 6
      · exact nf 7
      · exact nf 8
  have HS0 := hide S0
  have t1 := S0.v1
  have hln : (ss.length : Int) = n := by have := Hl.out; omega
  have o1 : ¬ off < 0 := by omega
  have o2 : ¬ 4096 < off := by omega
  have Hx4 := hide hx4
  have hB2 := hide hB1
  clear S0 nf e12 HX en e0 e1 e2 e3 hx4
  go_wp2
  try simp only [show decide (off < 0) = false from decide_eq_false o1, show decide (4096 < off) = false from decide_eq_false o2]
  generalize hB : w1.heap.size + 1 = B at HS0 ⊢
  have HBB : Hid (w.heap.size + 1 < B) := by have := hB2.out; show w.heap.size + 1 < B; omega
  clear hB t1 hB1
  go_loopw [43] (fun i wr => ∃ k : Nat, i = .int .i64 k ∧ k ≤ ss.length ∧ Hid (InS ss k) ∧ FVS w wr B (.slice sa xs.length cap) (.slice ta ss.length dap) xs ss off k) (fun i _ => ss.length - (intOf i).toNat)
  case atStart => exact ⟨0, rfl, by omega, fun j hj => absurd hj (Nat.not_lt_zero _), HS0.out⟩
  case round =>
    obtain ⟨k, rfl, hk, hin, hS⟩ := hrel
    have HS := hide hS
    clear hS
    have rr0 := HS.out.r 0 (by omega)
    have rr1 := HS.out.r 1 (by omega)
    have rr2 := HS.out.r 2 (by omega)
    have rr3 := HS.out.r 3 (by omega)
    have rr4 := HS.out.r 4 (by omega)
    have rr5 := HS.out.r 5 (by omega)
    have rr6 := HS.out.r 6 (by omega)
    have rr7 := HS.out.r 7 (by omega)
    have rr8 := HS.out.r 8 (by omega)
    have rr9 := HS.out.r 9 (by omega)
    have rf2 := fun o => HS.out.ex.unfrozen (b := w.heap.size + 1) (by omega) o
    have sf := fun o => HS.out.ex.unfrozen (b := B) (by have := HBB.out; omega) o
    by_cases hlt : k < ss.length
    · rcases HrT.out with h0 | ⟨b, o, rfl, hrow⟩
      · rw [h0] at hlt; simp at hlt
      have q0 := HS.out.ex.box (hrow k hlt)
      have hk4 : k < 4 := by have := Hl.out; have := Hx4.out; omega
      have hk0 : (0 : Int) ≤ (k : Int) := Int.natCast_nonneg _
      have hk1 : (k : Int) < (ss.length : Int) := by omega
      have hk2 : (k : Int) < n := by omega
      have hk44 : (k : Int) < 4 := by omega
      by_cases hr : -4096 ≤ ss.getD k 0 ∧ ss.getD k 0 ≤ 4096
      · have hin2 := hide (hin.out.step hr)
        have St := HS.out.step hk4 HBB.out
        have sk := HS.out.fs k hk4
        generalize ss.getD k 0 = x at q0 hr St
        have HSt := hide St
        clear St hrow
        have hlo : ¬ x < -4096 := by omega
        have hhi : ¬ 4096 < x := by omega
        go_wp2
        go_roundw
        · exact ⟨k + 1, by go_num, by omega, hin2, HSt.out⟩
        · simp [intOf]; omega
      · have Hno : Hid ((dcValidV xs ss off) = false) := decide_eq_false (fun q => hr (q.2.2.2.1 k hlt))
        generalize ss.getD k 0 = x at q0 hr
        clear hrow
        have hor : x < -4096 ∨ (¬ x < -4096 ∧ 4096 < x) := by omega
        rcases hor with hlo | ⟨hlo, hhi⟩
        all_goals
          go_wp2
          have Zz := (zs (zs (zs (zs (zs (zs (zs (zs (zs (zs HS.out.r 0) 1) 2) 3) 4) 5) 6) 7) 8) 9)
          have e0 := Zz 0 (by omega)
          have e1 := Zz 1 (by omega)
          have e2 := Zz 2 (by omega)
          have e3 := Zz 3 (by omega)
          have e4 := Zz 4 (by omega)
          have e5 := Zz 5 (by omega)
          have e6 := Zz 6 (by omega)
          have e7 := Zz 7 (by omega)
          have e8 := Zz 8 (by omega)
          have e9 := Zz 9 (by omega)
          exact bodyPost_ret (v := .tuple #[.agg #[.int .i64 0, .int .i64 0, .int .i64 0, .int .i64 0, .int .i64 0, .int .i64 0, .int .i64 0, .int .i64 0, .int .i64 0, .int .i64 0], .bool false]) (by simp [results, Try.results17, go_sem, e0, e1, e2, e3, e4, e5, e6, e7, e8, e9]) rfl (bad_fv Hno.out (by repeat (first | with_reducible exact HS.out.ex | with_reducible refine Ext.setCell ?_ (by show w.heap.size ≤ w.heap.size + 1; omega) _)))
    · have hkk : k = ss.length := by omega
      subst hkk
      have hsj : ∀ j, j < 4 → wr.cell? ⟨B, 5 + j, none⟩ = some (.int .i64 (ss.getD j 0)) := fun j hj => by
        rw [HS.out.fs j hj]
        by_cases e : j < ss.length
        · rw [if_pos e]
        · rw [if_neg e, List.getD_eq_getElem?_getD, List.getElem?_eq_none (by omega)]; rfl
      have g0 := HS.out.f0
      have g1 : wr.cell? ⟨B, 1, none⟩ = _ := HS.out.fl 0 (by omega)
      have g2 : wr.cell? ⟨B, 2, none⟩ = _ := HS.out.fl 1 (by omega)
      have g3 : wr.cell? ⟨B, 3, none⟩ = _ := HS.out.fl 2 (by omega)
      have g4 : wr.cell? ⟨B, 4, none⟩ = _ := HS.out.fl 3 (by omega)
      have g5 : wr.cell? ⟨B, 5, none⟩ = _ := hsj 0 (by omega)
      have g6 : wr.cell? ⟨B, 6, none⟩ = _ := hsj 1 (by omega)
      have g7 : wr.cell? ⟨B, 7, none⟩ = _ := hsj 2 (by omega)
      have g8 : wr.cell? ⟨B, 8, none⟩ = _ := hsj 3 (by omega)
      have g9 := HS.out.f9
      clear hsj
      have hval : Hid ((dcValidV xs ss off) = inB xs ss off) := decide_eq_decide.2 ⟨fun q => q.2.2.2.2, fun q => ⟨Hgood.out, Hl.out, ho, hin.out, q⟩⟩
      have hw := hide (fun W => within_any W xs ss off Hgood.out.1 Hgood.out.2.1 Hl.out hin.out ho)
      unfold vw at hw
      have HE := hide HS.out.ex
      generalize hc0 : xs.getD 0 0 = c0 at g1 hw
      have Hc0 := hide hc0
      clear hc0
      generalize hc1 : xs.getD 1 0 = c1 at g2 hw
      have Hc1 := hide hc1
      clear hc1
      generalize hc2 : xs.getD 2 0 = c2 at g3 hw
      have Hc2 := hide hc2
      clear hc2
      generalize hc3 : xs.getD 3 0 = c3 at g4 hw
      have Hc3 := hide hc3
      clear hc3
      generalize hd0 : ss.getD 0 0 = d0 at g5 hw
      have Hd0 := hide hd0
      clear hd0
      generalize hd1 : ss.getD 1 0 = d1 at g6 hw
      have Hd1 := hide hd1
      clear hd1
      generalize hd2 : ss.getD 2 0 = d2 at g7 hw
      have Hd2 := hide hd2
      clear hd2
      generalize hd3 : ss.getD 3 0 = d3 at g8 hw
      have Hd3 := hide hd3
      clear hd3
      generalize inB xs ss off = ib at hval hw
      go_wp2_with fail
      have D0 : Ext wr wr.drew := (Ext.refl wr).drew
      have dr0 := D0.box rr0
      have dr1 := D0.box rr1
      have dr2 := D0.box rr2
      have dr3 := D0.box rr3
      have dr4 := D0.box rr4
      have dr5 := D0.box rr5
      have dr6 := D0.box rr6
      have dr7 := D0.box rr7
      have dr8 := D0.box rr8
      have dr9 := D0.box rr9
      have dg0 := D0.box g0
      have dg1 := D0.box g1
      have dg2 := D0.box g2
      have dg3 := D0.box g3
      have dg4 := D0.box g4
      have dg5 := D0.box g5
      have dg6 := D0.box g6
      have dg7 := D0.box g7
      have dg8 := D0.box g8
      have dg9 := D0.box g9
      have HED := hide (HE.out.trans D0)
      have hne : w.heap.size + 1 ≠ B := by have := HBB.out; omega
      have Hne := hide hne
      have SA : Hid ((fun w' => w'.cell? ⟨B, 0, none⟩ = some (.int .i64 (xs.length : Int)) ∧ w'.cell? ⟨B, 1, none⟩ = some (.int .i64 c0) ∧ w'.cell? ⟨B, 2, none⟩ = some (.int .i64 c1) ∧ w'.cell? ⟨B, 3, none⟩ = some (.int .i64 c2) ∧ w'.cell? ⟨B, 4, none⟩ = some (.int .i64 c3) ∧ w'.cell? ⟨B, 5, none⟩ = some (.int .i64 d0) ∧ w'.cell? ⟨B, 6, none⟩ = some (.int .i64 d1) ∧ w'.cell? ⟨B, 7, none⟩ = some (.int .i64 d2) ∧ w'.cell? ⟨B, 8, none⟩ = some (.int .i64 d3) ∧ w'.cell? ⟨B, 9, none⟩ = some (.int .i64 off)) wr.drew) := ⟨dg0, dg1, dg2, dg3, dg4, dg5, dg6, dg7, dg8, dg9⟩
      clear D0 hne
      go_region_held3 (fun w' => w'.cell? ⟨B, 0, none⟩ = some (.int .i64 (xs.length : Int)) ∧ w'.cell? ⟨B, 1, none⟩ = some (.int .i64 c0) ∧ w'.cell? ⟨B, 2, none⟩ = some (.int .i64 c1) ∧ w'.cell? ⟨B, 3, none⟩ = some (.int .i64 c2) ∧ w'.cell? ⟨B, 4, none⟩ = some (.int .i64 c3) ∧ w'.cell? ⟨B, 5, none⟩ = some (.int .i64 d0) ∧ w'.cell? ⟨B, 6, none⟩ = some (.int .i64 d1) ∧ w'.cell? ⟨B, 7, none⟩ = some (.int .i64 d2) ∧ w'.cell? ⟨B, 8, none⟩ = some (.int .i64 d3) ∧ w'.cell? ⟨B, 9, none⟩ = some (.int .i64 off)) (first | with_reducible exact SA.out | with_reducible exact SB'.out | with_reducible exact SC'.out) (first | (go_at_call 30; refine (hw.out _).mono ?_; rintro e w2 ⟨rfl, x2⟩; have y0 := x2.box dr0; have y1 := x2.box dr1; have y2 := x2.box dr2; have y3 := x2.box dr3; have y4 := x2.box dr4; have y5 := x2.box dr5; have y6 := x2.box dr6; have y7 := x2.box dr7; have y8 := x2.box dr8; have y9 := x2.box dr9; have z0 := x2.box dg0; have z1 := x2.box dg1; have z2 := x2.box dg2; have z3 := x2.box dg3; have z4 := x2.box dg4; have z5 := x2.box dg5; have z6 := x2.box dg6; have z7 := x2.box dg7; have z8 := x2.box dg8; have z9 := x2.box dg9; have yf : ∀ o, w2.frozen? ⟨w.heap.size + 1, o, none⟩ = false := fun o => (x2.fz _).trans (by first | exact rf2 o | (simp [rf2]; done)); have HX2 := hide (HED.out.trans x2); clear x2; have SB' : Hid ((fun w' => w'.cell? ⟨B, 0, none⟩ = some (.int .i64 (xs.length : Int)) ∧ w'.cell? ⟨B, 1, none⟩ = some (.int .i64 c0) ∧ w'.cell? ⟨B, 2, none⟩ = some (.int .i64 c1) ∧ w'.cell? ⟨B, 3, none⟩ = some (.int .i64 c2) ∧ w'.cell? ⟨B, 4, none⟩ = some (.int .i64 c3) ∧ w'.cell? ⟨B, 5, none⟩ = some (.int .i64 d0) ∧ w'.cell? ⟨B, 6, none⟩ = some (.int .i64 d1) ∧ w'.cell? ⟨B, 7, none⟩ = some (.int .i64 d2) ∧ w'.cell? ⟨B, 8, none⟩ = some (.int .i64 d3) ∧ w'.cell? ⟨B, 9, none⟩ = some (.int .i64 off)) w2) := ⟨z0, z1, z2, z3, z4, z5, z6, z7, z8, z9⟩; have SC' : Hid ((fun w' => w'.cell? ⟨B, 0, none⟩ = some (.int .i64 (xs.length : Int)) ∧ w'.cell? ⟨B, 1, none⟩ = some (.int .i64 c0) ∧ w'.cell? ⟨B, 2, none⟩ = some (.int .i64 c1) ∧ w'.cell? ⟨B, 3, none⟩ = some (.int .i64 c2) ∧ w'.cell? ⟨B, 4, none⟩ = some (.int .i64 c3) ∧ w'.cell? ⟨B, 5, none⟩ = some (.int .i64 d0) ∧ w'.cell? ⟨B, 6, none⟩ = some (.int .i64 d1) ∧ w'.cell? ⟨B, 7, none⟩ = some (.int .i64 d2) ∧ w'.cell? ⟨B, 8, none⟩ = some (.int .i64 d3) ∧ w'.cell? ⟨B, 9, none⟩ = some (.int .i64 off)) ((((((((((w2.setCell ⟨w.heap.size + 1, 0, none⟩ (.int .i64 (xs.length : Int))).setCell ⟨w.heap.size + 1, 1, none⟩ (.int .i64 c0)).setCell ⟨w.heap.size + 1, 2, none⟩ (.int .i64 c1)).setCell ⟨w.heap.size + 1, 3, none⟩ (.int .i64 c2)).setCell ⟨w.heap.size + 1, 4, none⟩ (.int .i64 c3)).setCell ⟨w.heap.size + 1, 5, none⟩ (.int .i64 d0)).setCell ⟨w.heap.size + 1, 6, none⟩ (.int .i64 d1)).setCell ⟨w.heap.size + 1, 7, none⟩ (.int .i64 d2)).setCell ⟨w.heap.size + 1, 8, none⟩ (.int .i64 d3)).setCell ⟨w.heap.size + 1, 9, none⟩ (.int .i64 off))) := ⟨far10 Hne.out z0, far10 Hne.out z1, far10 Hne.out z2, far10 Hne.out z3, far10 Hne.out z4, far10 Hne.out z5, far10 Hne.out z6, far10 Hne.out z7, far10 Hne.out z8, far10 Hne.out z9⟩))
      all_goals go_wp2
      all_goals
        have hy : ∀ j, j < 10 → w2.cell? ⟨w.heap.size + 1, j, none⟩ = some ((fun _ => (.int .i64 0 : Value)) j) := fun j hj => by
          obtain rfl | rfl | rfl | rfl | rfl | rfl | rfl | rfl | rfl | rfl : j = 0 ∨ j = 1 ∨ j = 2 ∨ j = 3 ∨ j = 4 ∨ j = 5 ∨ j = 6 ∨ j = 7 ∨ j = 8 ∨ j = 9 := by omega
          all_goals assumption
        have Zz := (zt (zt (zt (zt (zt (zt (zt (zt (zt (zt hy 0 (.int .i64 (xs.length : Int))) 1 (.int .i64 c0)) 2 (.int .i64 c1)) 3 (.int .i64 c2)) 4 (.int .i64 c3)) 5 (.int .i64 d0)) 6 (.int .i64 d1)) 7 (.int .i64 d2)) 8 (.int .i64 d3)) 9 (.int .i64 off))
        have q0 : ((((((((((w2.setCell ⟨w.heap.size + 1, 0, none⟩ (.int .i64 (xs.length : Int))).setCell ⟨w.heap.size + 1, 1, none⟩ (.int .i64 c0)).setCell ⟨w.heap.size + 1, 2, none⟩ (.int .i64 c1)).setCell ⟨w.heap.size + 1, 3, none⟩ (.int .i64 c2)).setCell ⟨w.heap.size + 1, 4, none⟩ (.int .i64 c3)).setCell ⟨w.heap.size + 1, 5, none⟩ (.int .i64 d0)).setCell ⟨w.heap.size + 1, 6, none⟩ (.int .i64 d1)).setCell ⟨w.heap.size + 1, 7, none⟩ (.int .i64 d2)).setCell ⟨w.heap.size + 1, 8, none⟩ (.int .i64 d3)).setCell ⟨w.heap.size + 1, 9, none⟩ (.int .i64 off)).cell? ⟨w.heap.size + 1, 0, none⟩ = some (.int .i64 (xs.length : Int)) := (Zz 0 (by omega)).trans rfl
        have q1 : ((((((((((w2.setCell ⟨w.heap.size + 1, 0, none⟩ (.int .i64 (xs.length : Int))).setCell ⟨w.heap.size + 1, 1, none⟩ (.int .i64 c0)).setCell ⟨w.heap.size + 1, 2, none⟩ (.int .i64 c1)).setCell ⟨w.heap.size + 1, 3, none⟩ (.int .i64 c2)).setCell ⟨w.heap.size + 1, 4, none⟩ (.int .i64 c3)).setCell ⟨w.heap.size + 1, 5, none⟩ (.int .i64 d0)).setCell ⟨w.heap.size + 1, 6, none⟩ (.int .i64 d1)).setCell ⟨w.heap.size + 1, 7, none⟩ (.int .i64 d2)).setCell ⟨w.heap.size + 1, 8, none⟩ (.int .i64 d3)).setCell ⟨w.heap.size + 1, 9, none⟩ (.int .i64 off)).cell? ⟨w.heap.size + 1, 1, none⟩ = some (.int .i64 c0) := (Zz 1 (by omega)).trans rfl
        have q2 : ((((((((((w2.setCell ⟨w.heap.size + 1, 0, none⟩ (.int .i64 (xs.length : Int))).setCell ⟨w.heap.size + 1, 1, none⟩ (.int .i64 c0)).setCell ⟨w.heap.size + 1, 2, none⟩ (.int .i64 c1)).setCell ⟨w.heap.size + 1, 3, none⟩ (.int .i64 c2)).setCell ⟨w.heap.size + 1, 4, none⟩ (.int .i64 c3)).setCell ⟨w.heap.size + 1, 5, none⟩ (.int .i64 d0)).setCell ⟨w.heap.size + 1, 6, none⟩ (.int .i64 d1)).setCell ⟨w.heap.size + 1, 7, none⟩ (.int .i64 d2)).setCell ⟨w.heap.size + 1, 8, none⟩ (.int .i64 d3)).setCell ⟨w.heap.size + 1, 9, none⟩ (.int .i64 off)).cell? ⟨w.heap.size + 1, 2, none⟩ = some (.int .i64 c1) := (Zz 2 (by omega)).trans rfl
        have q3 : ((((((((((w2.setCell ⟨w.heap.size + 1, 0, none⟩ (.int .i64 (xs.length : Int))).setCell ⟨w.heap.size + 1, 1, none⟩ (.int .i64 c0)).setCell ⟨w.heap.size + 1, 2, none⟩ (.int .i64 c1)).setCell ⟨w.heap.size + 1, 3, none⟩ (.int .i64 c2)).setCell ⟨w.heap.size + 1, 4, none⟩ (.int .i64 c3)).setCell ⟨w.heap.size + 1, 5, none⟩ (.int .i64 d0)).setCell ⟨w.heap.size + 1, 6, none⟩ (.int .i64 d1)).setCell ⟨w.heap.size + 1, 7, none⟩ (.int .i64 d2)).setCell ⟨w.heap.size + 1, 8, none⟩ (.int .i64 d3)).setCell ⟨w.heap.size + 1, 9, none⟩ (.int .i64 off)).cell? ⟨w.heap.size + 1, 3, none⟩ = some (.int .i64 c2) := (Zz 3 (by omega)).trans rfl
        have q4 : ((((((((((w2.setCell ⟨w.heap.size + 1, 0, none⟩ (.int .i64 (xs.length : Int))).setCell ⟨w.heap.size + 1, 1, none⟩ (.int .i64 c0)).setCell ⟨w.heap.size + 1, 2, none⟩ (.int .i64 c1)).setCell ⟨w.heap.size + 1, 3, none⟩ (.int .i64 c2)).setCell ⟨w.heap.size + 1, 4, none⟩ (.int .i64 c3)).setCell ⟨w.heap.size + 1, 5, none⟩ (.int .i64 d0)).setCell ⟨w.heap.size + 1, 6, none⟩ (.int .i64 d1)).setCell ⟨w.heap.size + 1, 7, none⟩ (.int .i64 d2)).setCell ⟨w.heap.size + 1, 8, none⟩ (.int .i64 d3)).setCell ⟨w.heap.size + 1, 9, none⟩ (.int .i64 off)).cell? ⟨w.heap.size + 1, 4, none⟩ = some (.int .i64 c3) := (Zz 4 (by omega)).trans rfl
        have q5 : ((((((((((w2.setCell ⟨w.heap.size + 1, 0, none⟩ (.int .i64 (xs.length : Int))).setCell ⟨w.heap.size + 1, 1, none⟩ (.int .i64 c0)).setCell ⟨w.heap.size + 1, 2, none⟩ (.int .i64 c1)).setCell ⟨w.heap.size + 1, 3, none⟩ (.int .i64 c2)).setCell ⟨w.heap.size + 1, 4, none⟩ (.int .i64 c3)).setCell ⟨w.heap.size + 1, 5, none⟩ (.int .i64 d0)).setCell ⟨w.heap.size + 1, 6, none⟩ (.int .i64 d1)).setCell ⟨w.heap.size + 1, 7, none⟩ (.int .i64 d2)).setCell ⟨w.heap.size + 1, 8, none⟩ (.int .i64 d3)).setCell ⟨w.heap.size + 1, 9, none⟩ (.int .i64 off)).cell? ⟨w.heap.size + 1, 5, none⟩ = some (.int .i64 d0) := (Zz 5 (by omega)).trans rfl
        have q6 : ((((((((((w2.setCell ⟨w.heap.size + 1, 0, none⟩ (.int .i64 (xs.length : Int))).setCell ⟨w.heap.size + 1, 1, none⟩ (.int .i64 c0)).setCell ⟨w.heap.size + 1, 2, none⟩ (.int .i64 c1)).setCell ⟨w.heap.size + 1, 3, none⟩ (.int .i64 c2)).setCell ⟨w.heap.size + 1, 4, none⟩ (.int .i64 c3)).setCell ⟨w.heap.size + 1, 5, none⟩ (.int .i64 d0)).setCell ⟨w.heap.size + 1, 6, none⟩ (.int .i64 d1)).setCell ⟨w.heap.size + 1, 7, none⟩ (.int .i64 d2)).setCell ⟨w.heap.size + 1, 8, none⟩ (.int .i64 d3)).setCell ⟨w.heap.size + 1, 9, none⟩ (.int .i64 off)).cell? ⟨w.heap.size + 1, 6, none⟩ = some (.int .i64 d1) := (Zz 6 (by omega)).trans rfl
        have q7 : ((((((((((w2.setCell ⟨w.heap.size + 1, 0, none⟩ (.int .i64 (xs.length : Int))).setCell ⟨w.heap.size + 1, 1, none⟩ (.int .i64 c0)).setCell ⟨w.heap.size + 1, 2, none⟩ (.int .i64 c1)).setCell ⟨w.heap.size + 1, 3, none⟩ (.int .i64 c2)).setCell ⟨w.heap.size + 1, 4, none⟩ (.int .i64 c3)).setCell ⟨w.heap.size + 1, 5, none⟩ (.int .i64 d0)).setCell ⟨w.heap.size + 1, 6, none⟩ (.int .i64 d1)).setCell ⟨w.heap.size + 1, 7, none⟩ (.int .i64 d2)).setCell ⟨w.heap.size + 1, 8, none⟩ (.int .i64 d3)).setCell ⟨w.heap.size + 1, 9, none⟩ (.int .i64 off)).cell? ⟨w.heap.size + 1, 7, none⟩ = some (.int .i64 d2) := (Zz 7 (by omega)).trans rfl
        have q8 : ((((((((((w2.setCell ⟨w.heap.size + 1, 0, none⟩ (.int .i64 (xs.length : Int))).setCell ⟨w.heap.size + 1, 1, none⟩ (.int .i64 c0)).setCell ⟨w.heap.size + 1, 2, none⟩ (.int .i64 c1)).setCell ⟨w.heap.size + 1, 3, none⟩ (.int .i64 c2)).setCell ⟨w.heap.size + 1, 4, none⟩ (.int .i64 c3)).setCell ⟨w.heap.size + 1, 5, none⟩ (.int .i64 d0)).setCell ⟨w.heap.size + 1, 6, none⟩ (.int .i64 d1)).setCell ⟨w.heap.size + 1, 7, none⟩ (.int .i64 d2)).setCell ⟨w.heap.size + 1, 8, none⟩ (.int .i64 d3)).setCell ⟨w.heap.size + 1, 9, none⟩ (.int .i64 off)).cell? ⟨w.heap.size + 1, 8, none⟩ = some (.int .i64 d3) := (Zz 8 (by omega)).trans rfl
        have q9 : ((((((((((w2.setCell ⟨w.heap.size + 1, 0, none⟩ (.int .i64 (xs.length : Int))).setCell ⟨w.heap.size + 1, 1, none⟩ (.int .i64 c0)).setCell ⟨w.heap.size + 1, 2, none⟩ (.int .i64 c1)).setCell ⟨w.heap.size + 1, 3, none⟩ (.int .i64 c2)).setCell ⟨w.heap.size + 1, 4, none⟩ (.int .i64 c3)).setCell ⟨w.heap.size + 1, 5, none⟩ (.int .i64 d0)).setCell ⟨w.heap.size + 1, 6, none⟩ (.int .i64 d1)).setCell ⟨w.heap.size + 1, 7, none⟩ (.int .i64 d2)).setCell ⟨w.heap.size + 1, 8, none⟩ (.int .i64 d3)).setCell ⟨w.heap.size + 1, 9, none⟩ (.int .i64 off)).cell? ⟨w.heap.size + 1, 9, none⟩ = some (.int .i64 off) := (Zz 9 (by omega)).trans rfl
        exact bodyPost_ret (v := .tuple #[.agg #[.int .i64 (xs.length : Int), .int .i64 c0, .int .i64 c1, .int .i64 c2, .int .i64 c3, .int .i64 d0, .int .i64 d1, .int .i64 d2, .int .i64 d3, .int .i64 off], .bool ib]) (by simp [results, Try.results17, go_sem, q0, q1, q2, q3, q4, q5, q6, q7, q8, q9]) rfl ⟨_, by rw [hval.out], fun _ => by unfold vw; rw [Hc0.out, Hc1.out, Hc2.out, Hc3.out, Hd0.out, Hd1.out, Hd2.out, Hd3.out], ⟨_, _, _, _, _, _, _, _, _, _, rfl⟩, by repeat (first | with_reducible exact HX2.out | with_reducible refine Ext.setCell ?_ (by show w.heap.size ≤ w.heap.size + 1; omega) _)⟩
end Go.Proofs.Ytanbgpmbccianaa
namespace Go.Proofs.Ytanbgpmbccianaa
open Go.ChangeShapes Go.RowKit
set_option linter.unusedSimpArgs false
set_option linter.unusedVariables false

/-- Does the shape xs stretch to ys? -/
abbrev Strs (xs ys : List Int) : Prop := xs.length ≤ ys.length ∧ ∀ j, j < xs.length → (xs.getD j 0 = ys.getD (ys.length - xs.length + j) 0 ∨ xs.getD j 0 = 1)
def dcStrs (xs ys : List Int) : Bool := decide (Strs xs ys)
theorem dcStrs_t {xs ys : List Int} (h : Strs xs ys) : dcStrs xs ys = true := decide_eq_true h
theorem dcStrs_f {xs ys : List Int} (h : ¬ Strs xs ys) : dcStrs xs ys = false := decide_eq_false h

/-- The stride at axis i behind it. -/
def strAt (xs ss ys : List Int) (i : Nat) : Int :=
  if i < ys.length - xs.length then 0 else if xs.getD (i - (ys.length - xs.length)) 0 = ys.getD i 0 then ss.getD (i - (ys.length - xs.length)) 0 else 0
def bstr (xs ss ys : List Int) : List Int := (List.range ys.length).map (strAt xs ss ys)
theorem bstr_len (xs ss ys : List Int) : (bstr xs ss ys).length = ys.length := by simp [bstr]
theorem bstr_getD (xs ss ys : List Int) (i : Nat) : (bstr xs ss ys).getD i 0 = if i < ys.length then strAt xs ss ys i else 0 := by
  unfold bstr
  by_cases h : i < ys.length
  · rw [if_pos h]; simp [List.getD_eq_getElem?_getD, h]
  · rw [if_neg h]; simp [List.getD_eq_getElem?_getD, h]

def StrOk (w : World) (xs ss ys : List Int) (off : Int) (e : Ending) (w' : World) : Prop :=
  ∃ A : Array Value, e = .returned (.tuple #[.agg A, .bool (dcStrs xs ys)]) ∧ (Strs xs ys → A = vw ys (bstr xs ss ys) off) ∧ (∃ a0 a1 a2 a3 a4 a5 a6 a7 a8 a9 : Int, A = #[.int .i64 a0, .int .i64 a1, .int .i64 a2, .int .i64 a3, .int .i64 a4, .int .i64 a5, .int .i64 a6, .int .i64 a7, .int .i64 a8, .int .i64 a9]) ∧ Ext w w'
theorem bad_str {w w' : World} {xs ss ys : List Int} {off : Int} (h : ¬ Strs xs ys) (x : Ext w w') : StrOk w xs ss ys off (.returned (.tuple #[.agg #[.int .i64 0, .int .i64 0, .int .i64 0, .int .i64 0, .int .i64 0, .int .i64 0, .int .i64 0, .int .i64 0, .int .i64 0, .int .i64 0], .bool false])) w' :=
  ⟨_, by rw [dcStrs_f h], fun q => absurd q h, ⟨0, 0, 0, 0, 0, 0, 0, 0, 0, 0, rfl⟩, x⟩

/-- The world of the loop: f at block w.heap.size, s behind it, the answer behind that, out at B. -/
structure STW (w wr : World) (B : Nat) (xs ss ys : List Int) (off : Int) (k : Nat) : Prop where
  f0 : wr.cell? ⟨w.heap.size, 0, none⟩ = some (.int .i64 xs.length)
  fl : ∀ j, j < 4 → wr.cell? ⟨w.heap.size, 1 + j, none⟩ = some (.int .i64 (xs.getD j 0))
  fs : ∀ j, j < 4 → wr.cell? ⟨w.heap.size, 5 + j, none⟩ = some (.int .i64 (ss.getD j 0))
  sl : ∀ j, j < 4 → wr.cell? ⟨w.heap.size + 1, 1 + j, none⟩ = some (.int .i64 (ys.getD j 0))
  r : ∀ j, j < 10 → wr.cell? ⟨w.heap.size + 1 + 1, j, none⟩ = some (.int .i64 0)
  o0 : wr.cell? ⟨B, 0, none⟩ = some (.int .i64 ys.length)
  ol : ∀ j, j < 4 → wr.cell? ⟨B, 1 + j, none⟩ = some (.int .i64 (ys.getD j 0))
  os : ∀ j, j < 4 → wr.cell? ⟨B, 5 + j, none⟩ = some (.int .i64 (if j < ys.length - xs.length + k then (bstr xs ss ys).getD j 0 else 0))
  o9 : wr.cell? ⟨B, 9, none⟩ = some (.int .i64 off)
  ex : Ext w wr

theorem STW.step {w wr : World} {B : Nat} {xs ss ys : List Int} {off : Int} {k : Nat} (h : STW w wr B xs ss ys off k) (hk : ys.length - xs.length + k < 4) (hB : w.heap.size + 2 < B) {v : Int} (hv : v = (bstr xs ss ys).getD (ys.length - xs.length + k) 0) :
    STW w (wr.setCell ⟨B, 5 + (ys.length - xs.length + k), none⟩ (.int .i64 v)) B xs ss ys off (k + 1) := by
  have m : Mut B wr (wr.setCell ⟨B, 5 + (ys.length - xs.length + k), none⟩ (.int .i64 v)) := (Mut.refl _ _).setCell _ _
  refine ⟨m.box (by omega) h.f0, fun j hj => m.box (by omega) (h.fl j hj), fun j hj => m.box (by omega) (h.fs j hj), fun j hj => m.box (by omega) (h.sl j hj), fun j hj => m.box (by omega) (h.r j hj), ?_, fun j hj => ?_, fun j hj => ?_, ?_, h.ex.setCell (by show w.heap.size ≤ B; omega) _⟩
  · rw [World.cell?_setCell_other _ _ _ _ (by intro h; simp only [Addr.mk.injEq] at h; omega)]; exact h.o0
  · rw [World.cell?_setCell_other _ _ _ _ (by intro h; simp only [Addr.mk.injEq] at h; omega)]; exact h.ol j hj
  · by_cases e : j = ys.length - xs.length + k
    · subst e
      rw [if_pos (by omega), hv]
      exact World.cell?_setCell_same _ _ _ (h.os _ hj)
    · rw [World.cell?_setCell_other _ _ _ _ (by intro h; simp only [Addr.mk.injEq] at h; omega), h.os j hj]
      by_cases h1 : j < ys.length - xs.length + k
      · rw [if_pos h1, if_pos (by omega)]
      · rw [if_neg h1, if_neg (by omega)]
  · rw [World.cell?_setCell_other _ _ _ _ (by intro h; simp only [Addr.mk.injEq] at h; omega)]; exact h.o9

/-- An axis that is stretched: nothing is written. -/
theorem STW.skip {w wr : World} {B : Nat} {xs ss ys : List Int} {off : Int} {k : Nat} (h : STW w wr B xs ss ys off k) (hk : ys.length - xs.length + k < 4) (hv : (bstr xs ss ys).getD (ys.length - xs.length + k) 0 = 0) :
    STW w wr B xs ss ys off (k + 1) := by
  refine ⟨h.f0, h.fl, h.fs, h.sl, h.r, h.o0, h.ol, fun j hj => ?_, h.o9, h.ex⟩
  rw [h.os j hj]
  by_cases e : j = ys.length - xs.length + k
  · subst e
    rw [if_neg (by omega), if_pos (by omega), hv]
  · by_cases h1 : j < ys.length - xs.length + k
    · rw [if_pos h1, if_pos (by omega)]
    · rw [if_neg h1, if_neg (by omega)]

end Go.Proofs.Ytanbgpmbccianaa
namespace Go.Proofs.Ytanbgpmbccianaa
open Go.ChangeShapes Go.RowKit
set_option linter.unusedSimpArgs false
set_option linter.unusedVariables false

end Go.Proofs.Ytanbgpmbccianaa
namespace Go.Proofs.Ytanbgpmbccianaa
open Go.ChangeShapes Go.RowKit
set_option linter.unusedSimpArgs false
set_option linter.unusedVariables false

def LawOk (w : World) (e : Ending) (w' : World) : Prop := e = .returned (.bool true) ∧ Below w.heap.size w w'

theorem rowB {w : World} {b n : Nat} {L : List Int} (h : Row w b 0 L) (hn : n = L.length) : IntsB w b (b + 1) (.slice (some ⟨b, 0, none⟩) n n) L := ⟨_, _, by rw [hn], Or.inr ⟨b, 0, rfl, Nat.le_refl _, Nat.lt_succ_self _, h⟩⟩
theorem ownB {w : World} {lo cap : Nat} {sa : Option Addr} {L : List Int} (h : OwnI w lo sa L) : IntsB w lo w.heap.size (.slice sa L.length cap) L := by
  refine ⟨sa, cap, rfl, ?_⟩
  rcases h with h | ⟨g, h1, h2, h3, _⟩
  · exact Or.inl h
  · by_cases e : L = []
    · exact Or.inl e
    · have hl : 0 < L.length := List.length_pos_iff.2 e
      exact Or.inr ⟨g, 0, h1, h2, cell_lt (h3 0 hl), h3⟩
/-- The answer of BroadcastShape, its code and list named. -/
def BS2 (w : World) (c : Int) (L : List Int) (e : Ending) (w' : World) : Prop :=
  ∃ (sa : Option Addr) (cap : Nat), e = .returned (.agg #[.int .i64 c, .slice sa L.length cap]) ∧ OwnI w' w.heap.size sa L ∧ Bel w w'
theorem bs2_of {w : World} {xs ys : List Int} {c : Int} {L : List Int} {e : Ending} {w' : World} (h : BSOk w xs ys e w') (hb : bsL xs ys = (c, L)) : BS2 w c L e w' := by
  obtain ⟨sa, cap, h1, h2, h3⟩ := h
  rw [hb] at h1 h2
  exact ⟨sa, cap, h1, h2, h3⟩
theorem bsL_len (xs ys : List Int) : (bsL xs ys).2.length ≤ 4 := by
  unfold bsL
  split
  · next h => rw [jn_len]; have := h.1.1; have := h.2.1.1; omega
  · simp

end Go.Proofs.Ytanbgpmbccianaa
namespace Go.Proofs.Ytanbgpmbccianaa
open Go.ChangeShapes Go.RowKit
set_option linter.unusedSimpArgs false
set_option linter.unusedVariables false

theorem MIn.wide {l h lo hi : Nat} {w w' : World} (m : MIn l h w w') (h1 : lo ≤ l) (h2 : h ≤ hi) : MIn lo hi w w' :=
  ⟨⟨m.bl.os, m.bl.tape, m.bl.output, m.bl.size, fun j hj => m.bl.block j (by omega)⟩, fun k o v hk hc => m.box k o v (by omega) hc, m.fz⟩
theorem MIn.tr {lo hi : Nat} {a b c : World} (x : MIn lo hi a b) (y : MIn lo hi b c) : MIn lo hi a c :=
  ⟨x.bl.trans y.bl, fun k o v hk hc => y.box k o v hk (x.box k o v hk hc), fun p => (y.fz p).trans (x.fz p)⟩

end Go.Proofs.Ytanbgpmbccianaa
namespace Go.Proofs.Ytanbgpmbccianaa
open Go.ChangeShapes Go.RowKit
set_option linter.unusedSimpArgs false
set_option linter.unusedVariables false

/-- append at a step of a region that draws, whether or not something is appended. -/
theorem step_append_at {P : Program} (w : World) {ops : Array Oper} {o : Oper} {a : Act} {K : Act → World → Prop} {Q : Exit → Act → World → Prop} {E : Prop} (hgd : o.guard = none) (s x : Operand) (t : TypeId)
    (ho : o.op = .call { callee := .builtin .append, args := #[s, x], argTypes := #[t, t] })
    (base : Nat) (e : TypeId) (i : TypeInfo) (z : Value) (size bytes : Nat) (ht : P.underlying t = some (.slice e)) (hi : P.info? e = some i) (hz : i.zero = some z)
    (hsize : i.size = size) (hby : i.bytes = bytes) (hzs : z.cells.size = size) (hsz : 0 < size)
    (v : Value) (n : Nat) (xs : List Value) (hs : a.eval s = v) (hown : w.ownsRow base e size v n xs)
    (ad : Addr) (m c : Nat) (news : List Value) (hx : a.eval x = .slice (some ad) m c) (hl : news.length = m * size) (hnews : ∀ j u, news[j]? = some u → w.cell? (ad.add j) = some u) (h1 : ∀ u ∈ news, u.oneCell' = true)
    (h63 : n + m ≤ maxLen) (hbytes : (n + m) * bytes ≤ 140737488355328) (hbase : base ≤ w.heap.size)
    (h : ∀ v' w', w'.ownsRow base e size v' (n + m) (xs ++ news) → w.grownBy w' v.ownBlock → (v'.ownBlock = v.ownBlock ∨ v'.ownBlock = some w.heap.size) → K (a.put o.dst v') w') :
    if Region.wanted o (yielded ops a.tmps) = true then Oper.wp P o a w K Q else E := by
  have hw : Region.wanted o (yielded ops a.tmps) = true := by simp [Region.wanted, hgd]
  rw [if_pos hw]
  obtain ⟨v', w', hr, h2, h3, _, h5⟩ := run_append_own_at (P := P) w base t o.type e i z size bytes ht hi hz hsize hby hzs hsz v n xs hown ad m c news hl hnews h1 h63 hbytes hbase
  unfold Oper.wp execOp
  simp only [ho, resolve, invoke, builtin, Sem.run_bind, Sem.run_pure, Result.andThen_ok, List.map_toArray, List.map_cons, List.map_nil, hs, hx, hr]
  exact h v' w' h2 h3 h5

theorem own_below {w w' : World} {base e size n B : Nat} {v : Value} {xs : List Value} (h : w.ownsRow base e size v n xs) (x : Below B w w') (hb : ∀ g, v.ownBlock = some g → g < B) : w'.ownsRow base e size v n xs := by
  refine ⟨h.1, ?_⟩
  rcases h.2 with h | ⟨g, cap, cur, rfl, h1, h2, h3⟩
  · exact Or.inl h
  · exact Or.inr ⟨g, cap, cur, rfl, h1, by rw [x.block g (hb g rfl)]; exact h2, h3⟩

/-- Two lists of the call's own, each in a block of its own. -/
def Two (lo : Nat) (W : World) (v u : Value) (xs ss : List Int) : Prop :=
  ∃ g h, lo ≤ g ∧ lo ≤ h ∧ g ≠ h ∧ g < W.heap.size ∧ h < W.heap.size ∧ IntsB W g (g + 1) v xs ∧ IntsB W h (h + 1) u ss ∧ FZ W v xs ∧ FZ W u ss

theorem Two.mut {lo R : Nat} {W W' : World} {v u : Value} {xs ss : List Int} (h : Two lo W v u xs ss) (m : Mut R W W') (hR : R < lo) : Two lo W' v u xs ss := by
  obtain ⟨g, k, h1, h2, h3, h4, h5, h6, h7, h8, h9⟩ := h
  have hs : W.heap.size ≤ W'.heap.size := m.size
  have fz : ∀ {v : Value} {L : List Int}, FZ W v L → FZ W' v L := by
    intro v L h
    rcases h with h | ⟨b, off, n, cap, h1, h2, h3⟩
    · exact Or.inl h
    · exact Or.inr ⟨b, off, n, cap, h1, by omega, fun o => (m.fz _).trans (h3 o)⟩
  exact ⟨g, k, h1, h2, h3, by omega, by omega, h6.mut m (by omega), h7.mut m (by omega), fz h8, fz h9⟩

theorem Two.nil {lo : Nat} {W : World} {sa sb : Option Addr} {ca cb : Nat} (h : lo + 2 ≤ W.heap.size) : Two lo W (.slice sa 0 ca) (.slice sb 0 cb) [] [] :=
  ⟨lo, lo + 1, Nat.le_refl _, by omega, by omega, by omega, by omega, ⟨sa, ca, rfl, Or.inl rfl⟩, ⟨sb, cb, rfl, Or.inl rfl⟩, Or.inl rfl, Or.inl rfl⟩

/-- Behind the append. -/
theorem two_of {C D : World} {lo b3 base n cap cb : Nat} {sa sb : Option Addr} {xs ss : List Int} (hx : xs ≠ []) (hs : ss ≠ []) (hO : OwnI C lo sa xs) (hg : ∀ g, sa = some ⟨g, 0, none⟩ → g ≠ b3) (hb : lo ≤ b3) (hbC : b3 < C.heap.size)
    (hown : D.ownsRow base 2 1 (.slice sb ss.length cb) n (ss.map (Value.int .i64))) (hgrow : C.grownBy D (some b3)) (hat : (Value.slice sb ss.length cb).ownBlock = some b3 ∨ (Value.slice sb ss.length cb).ownBlock = some C.heap.size) :
    Two lo D (.slice sa xs.length cap) (.slice sb ss.length cb) xs ss := by
  rcases hO with h | ⟨g, rfl, h1, h2, h3⟩
  · exact absurd h hx
  have hgl : g < C.heap.size := cell_lt (h2 0 (List.length_pos_iff.2 hx))
  have hgb := hg g rfl
  have hl : n = ss.length := by have := hown.1; simp at this; omega
  have hb1 : D.heap[g]? = C.heap[g]? := hgrow.block g hgl (by intro e; exact hgb (by simpa using e))
  have hsz := hgrow.size
  rcases hown.2 with ⟨e1, e2⟩ | ⟨h, cap2, cur, e1, e2, e3, _⟩
  · exact absurd (List.eq_nil_of_length_eq_zero (by omega)) hs
  have hh : sb = some ⟨h, 0, none⟩ := by simp at e1; exact e1.1
  subst hh
  have hhd : h < D.heap.size := by
    rcases Nat.lt_or_ge h D.heap.size with q | q
    · exact q
    · rw [Array.getElem?_eq_none q] at e3; cases e3
  have hne : g ≠ h := by
    rcases hat with q | q
    · have : h = b3 := by simpa [Value.ownBlock] using q
      omega
    · have : h = C.heap.size := by simpa [Value.ownBlock] using q
      omega
  have hlh : lo ≤ h := by
    rcases hat with q | q
    · have : h = b3 := by simpa [Value.ownBlock] using q
      omega
    · have : h = C.heap.size := by simpa [Value.ownBlock] using q
      omega
  subst hl
  obtain ⟨hrow, _⟩ := row_of_own hown
  have hfr := fun o => hown.frozenAt o
  refine ⟨g, h, h1, hlh, hne, by omega, hhd, ⟨_, cap, rfl, Or.inr ⟨g, 0, rfl, Nat.le_refl _, by omega, fun j hj => ?_⟩⟩, ⟨_, cb, rfl, Or.inr ⟨h, 0, rfl, Nat.le_refl _, by omega, hrow⟩⟩, Or.inr ⟨g, 0, _, cap, rfl, by omega, fun o => ?_⟩, Or.inr ⟨h, 0, _, cb, rfl, hhd, hfr⟩⟩
  · exact (World.cell?_of_block hb1).trans (h2 j hj)
  · exact (World.frozen?_of_block hb1).trans (h3 o)

/-- The world of 'view': f at block w.heap.size, the answer behind it. -/
structure FR (w W : World) (n a0 a1 a2 a3 b0 b1 b2 b3 off : Int) : Prop where
  c0 : W.cell? ⟨w.heap.size, 0, none⟩ = some (.int .i64 n)
  c1 : W.cell? ⟨w.heap.size, 1, none⟩ = some (.int .i64 a0)
  c2 : W.cell? ⟨w.heap.size, 2, none⟩ = some (.int .i64 a1)
  c3 : W.cell? ⟨w.heap.size, 3, none⟩ = some (.int .i64 a2)
  c4 : W.cell? ⟨w.heap.size, 4, none⟩ = some (.int .i64 a3)
  c5 : W.cell? ⟨w.heap.size, 5, none⟩ = some (.int .i64 b0)
  c6 : W.cell? ⟨w.heap.size, 6, none⟩ = some (.int .i64 b1)
  c7 : W.cell? ⟨w.heap.size, 7, none⟩ = some (.int .i64 b2)
  c8 : W.cell? ⟨w.heap.size, 8, none⟩ = some (.int .i64 b3)
  c9 : W.cell? ⟨w.heap.size, 9, none⟩ = some (.int .i64 off)
  r0 : W.cell? ⟨w.heap.size + 1, 0, none⟩ = some (.slice none 0 0)
  r1 : W.cell? ⟨w.heap.size + 1, 1, none⟩ = some (.slice none 0 0)
  r2 : W.cell? ⟨w.heap.size + 1, 2, none⟩ = some (.int .i64 0)
  rf : ∀ o, W.frozen? ⟨w.heap.size + 1, o, none⟩ = false
  sz : w.heap.size + 2 ≤ W.heap.size
  bl : Bel w W

/-- Cells and freezing of what lies below are kept. -/
theorem FR.by {w W W' : World} {n a0 a1 a2 a3 b0 b1 b2 b3 off : Int} (h : FR w W n a0 a1 a2 a3 b0 b1 b2 b3 off) (hk : ∀ k, k < w.heap.size + 2 → W'.heap[k]? = W.heap[k]?) (hs : W.heap.size ≤ W'.heap.size) (hb : Bel w W') : FR w W' n a0 a1 a2 a3 b0 b1 b2 b3 off := by
  have e : ∀ {b o v}, b < w.heap.size + 2 → W.cell? ⟨b, o, none⟩ = some v → W'.cell? ⟨b, o, none⟩ = some v := fun hb hc => (World.cell?_of_block (hk _ hb)).trans hc
  exact ⟨e (by omega) h.c0, e (by omega) h.c1, e (by omega) h.c2, e (by omega) h.c3, e (by omega) h.c4, e (by omega) h.c5, e (by omega) h.c6, e (by omega) h.c7, e (by omega) h.c8, e (by omega) h.c9, e (by omega) h.r0, e (by omega) h.r1, e (by omega) h.r2, fun o => (World.frozen?_of_block (hk _ (by show w.heap.size + 1 < _; omega))).trans (h.rf o), Nat.le_trans h.sz hs, hb⟩
theorem FR.keep {w W W' : World} {n a0 a1 a2 a3 b0 b1 b2 b3 off : Int} (h : FR w W n a0 a1 a2 a3 b0 b1 b2 b3 off) (x : Bel W W') : FR w W' n a0 a1 a2 a3 b0 b1 b2 b3 off :=
  h.by (fun k hk => x.block k (by have := h.sz; omega)) x.size (Bel.tr h.bl x)
theorem FR.alloc {w W : World} {n a0 a1 a2 a3 b0 b1 b2 b3 off : Int} (h : FR w W n a0 a1 a2 a3 b0 b1 b2 b3 off) (cs : Array Value) (t : TypeId) : FR w (W.alloc (.cells cs t)) n a0 a1 a2 a3 b0 b1 b2 b3 off :=
  h.keep ((Ext.refl W).alloc cs t).bl
theorem FR.grown {w W W' : World} {b : Nat} {n a0 a1 a2 a3 b0 b1 b2 b3 off : Int} (h : FR w W n a0 a1 a2 a3 b0 b1 b2 b3 off) (x : W.grownBy W' (some b)) (hb : w.heap.size + 2 ≤ b) : FR w W' n a0 a1 a2 a3 b0 b1 b2 b3 off :=
  h.by (fun k hk => x.block k (by have := h.sz; omega) (by intro e; have : k = b := by simpa using e
                                                           omega)) x.size (Below.grown h.bl x (Below.size h.bl) (fun j hj => by have : b = j := by simpa using hj
                                                                                                                                omega))

/-- The strides to be appended. -/
theorem FR.news {w W : World} {n a0 a1 a2 a3 b0 b1 b2 b3 off : Int} (h : FR w W n a0 a1 a2 a3 b0 b1 b2 b3 off) {ss : List Int} (hl : ss.length ≤ 4) (e0 : ss.getD 0 0 = b0) (e1 : ss.getD 1 0 = b1) (e2 : ss.getD 2 0 = b2) (e3 : ss.getD 3 0 = b3) :
    ∀ j u, (ss.map (Value.int .i64))[j]? = some u → W.cell? ((⟨w.heap.size, 5, none⟩ : Addr).add j) = some u := fun j u hu => by
  have hj : j < ss.length := by
    have := (List.getElem?_eq_some_iff.1 hu).1
    simpa using this
  have e : ss[j]? = some (ss.getD j 0) := by simp [List.getD_eq_getElem?_getD, hj]
  rw [List.getElem?_map, e] at hu
  simp only [Option.map_some, Option.some.injEq] at hu
  subst hu
  rw [Addr.add_lit]
  obtain rfl | rfl | rfl | rfl : j = 0 ∨ j = 1 ∨ j = 2 ∨ j = 3 := by omega
  · rw [e0]; exact h.c5
  · rw [e1]; exact h.c6
  · rw [e2]; exact h.c7
  · rw [e3]; exact h.c8

def VOk (w : World) (xs ss : List Int) (off : Int) (e : Ending) (w' : World) : Prop :=
  ∃ (sa sb : Option Addr) (ca cb : Nat), e = .returned (.agg #[.slice sa xs.length ca, .slice sb ss.length cb, .int .i64 off]) ∧ Two w.heap.size w' (.slice sa xs.length ca) (.slice sb ss.length cb) xs ss ∧ Bel w w'

theorem view_done {w W : World} {n a0 a1 a2 a3 b0 b1 b2 b3 off : Int} (h : FR w W n a0 a1 a2 a3 b0 b1 b2 b3 off) {xs ss : List Int} {sa sb : Option Addr} {ca cb : Nat}
    (ht : (xs = [] ∧ ss = []) ∨ Two (w.heap.size + 2) W (.slice sa xs.length ca) (.slice sb ss.length cb) xs ss) :
    VOk w xs ss off (.returned (.agg #[.slice sa xs.length ca, .slice sb ss.length cb, .int .i64 off])) (((W.setCell ⟨w.heap.size + 1, 0, none⟩ (.slice sa xs.length ca)).setCell ⟨w.heap.size + 1, 1, none⟩ (.slice sb ss.length cb)).setCell ⟨w.heap.size + 1, 2, none⟩ (.int .i64 off)) := by
  have m : Mut (w.heap.size + 1) W (((W.setCell ⟨w.heap.size + 1, 0, none⟩ (.slice sa xs.length ca)).setCell ⟨w.heap.size + 1, 1, none⟩ (.slice sb ss.length cb)).setCell ⟨w.heap.size + 1, 2, none⟩ (.int .i64 off)) := (((Mut.refl _ _).setCell _ _).setCell _ _).setCell _ _
  refine ⟨sa, sb, ca, cb, rfl, ?_, ((h.bl.setCell (by show w.heap.size ≤ w.heap.size + 1; omega) _).setCell (by show w.heap.size ≤ w.heap.size + 1; omega) _).setCell (by show w.heap.size ≤ w.heap.size + 1; omega) _⟩
  rcases ht with ⟨rfl, rfl⟩ | ht
  · exact Two.nil (Nat.le_trans h.sz m.size)
  · obtain ⟨g, k, h1, h2, h3⟩ := ht.mut m (by omega)
    exact ⟨g, k, by omega, by omega, h3⟩
end Go.Proofs.Ytanbgpmbccianaa
namespace Go.Proofs.Ytanbgpmbccianaa
open Go.ChangeShapes Go.RowKit
set_option linter.unusedSimpArgs false
set_option linter.unusedVariables false

theorem own_made {w W : World} (h : w.heap.size + 2 ≤ W.heap.size) : (W.alloc (.cells #[] 2)).ownsRow (w.heap.size + 2) 2 1 (.slice (some ⟨W.heap.size, 0, none⟩) 0 0) 0 [] :=
  World.ownsRow_made (base := w.heap.size + 2) (e := 2) (size := 1) W #[] 0 h (by unfold maxLen; omega) rfl
theorem OwnI.low {W : World} {lo l : Nat} {sa : Option Addr} {L : List Int} (h : OwnI W l sa L) (hl : lo ≤ l) : OwnI W lo sa L := by
  rcases h with h | ⟨g, h1, h2, h3⟩
  · exact Or.inl h
  · exact Or.inr ⟨g, h1, by omega, h3⟩
theorem OwnI.keep {W W' : World} {lo : Nat} {sa : Option Addr} {L : List Int} (h : OwnI W lo sa L) (x : Bel W W') : OwnI W' lo sa L := by
  by_cases e : L = []
  · exact Or.inl e
  rcases h with h | ⟨g, h1, h2, h3, h4⟩
  · exact Or.inl h
  · have hg : g < W.heap.size := cell_lt (h3 0 (List.length_pos_iff.2 e))
    exact Or.inr ⟨g, h1, h2, fun j hj => x.box (h3 j hj), fun o => (Below.frozen x (p := ⟨g, o, none⟩) hg).trans (h4 o)⟩
theorem OwnI.alloc {W : World} {lo : Nat} {sa : Option Addr} {L : List Int} (h : OwnI W lo sa L) : OwnI (W.alloc (.cells #[] 2)) lo sa L := h.keep ((Ext.refl W).alloc _ _).bl
theorem own_ne_new {W : World} {lo : Nat} {sa : Option Addr} {L : List Int} (h : OwnI W lo sa L) (hx : L ≠ []) : ∀ g, sa = some ⟨g, 0, none⟩ → g ≠ W.heap.size := fun g hg => by
  rcases h with h | ⟨g2, h1, h2, h3, h4⟩
  · exact absurd h hx
  · have : g2 < W.heap.size := cell_lt (h3 0 (List.length_pos_iff.2 hx))
    rw [h1] at hg
    simp at hg
    omega
theorem own_ge {W : World} {lo : Nat} {sa : Option Addr} {L : List Int} (h : OwnI W lo sa L) : L ≠ [] → ∀ g, sa = some ⟨g, 0, none⟩ → lo ≤ g := fun hx g hg => by
  rcases h with h | ⟨g2, h1, h2, h3, h4⟩
  · exact absurd h hx
  · rw [h1] at hg
    simp at hg
    omega
theorem own_ne_old {L : List Int} {W : World} {sa : Option Addr} (h : L ≠ [] → ∀ g, sa = some ⟨g, 0, none⟩ → (W.alloc (.cells #[] 2)).drew.heap.size ≤ g) (hx : L ≠ []) : ∀ g, sa = some ⟨g, 0, none⟩ → g ≠ W.heap.size := fun g hg => by
  have := h hx g hg
  simp [World.drew] at this
  omega
theorem view_two {xs ss : List Int} {P : Prop} (hl : ss.length = xs.length) (h : xs ≠ [] → ss ≠ [] → P) : (xs = [] ∧ ss = []) ∨ P := by
  by_cases e : xs = []
  · subst e; exact Or.inl ⟨rfl, List.eq_nil_of_length_eq_zero hl⟩
  · exact Or.inr (h e (fun q => e (List.eq_nil_of_length_eq_zero (by rw [← hl, q]; rfl))))
theorem far3 {W : World} {R j : Nat} {v0 v1 v2 u : Value} (h : W.cell? ⟨R, j, none⟩ = some u) :
    (((W.setCell ⟨R + 1, 0, none⟩ v0).setCell ⟨R + 1, 1, none⟩ v1).setCell ⟨R + 1, 2, none⟩ v2).cell? ⟨R, j, none⟩ = some u :=
  far1 (by omega) (far1 (by omega) (far1 (by omega) h))

theorem szk {W A : World} {k : Nat} (h : k ≤ W.heap.size) (hA : A = W.drew ∨ A = (W.alloc (.cells #[] 2)).drew) : k ≤ A.heap.size := by
  rcases hA with rfl | rfl
  · exact h
  · exact Nat.le_trans h (by simp [World.drew])
theorem frk {w W A W' : World} {n a0 a1 a2 a3 b0 b1 b2 b3 off : Int} (h : FR w W n a0 a1 a2 a3 b0 b1 b2 b3 off) (hA : A = W.drew ∨ A = (W.alloc (.cells #[] 2)).drew) (x : Bel A W') : FR w W' n a0 a1 a2 a3 b0 b1 b2 b3 off := by
  rcases hA with rfl | rfl
  · exact (h.keep (bel_drew W)).keep x
  · exact ((h.alloc #[] 2).keep (bel_drew _)).keep x
theorem own_made2 {w W : World} (h : w.heap.size + 2 ≤ W.heap.size) : (W.alloc (.cells #[] 2)).drew.ownsRow (w.heap.size + 2) 2 1 (.slice (some ⟨W.heap.size, 0, none⟩) 0 0) 0 [] :=
  own_below (own_made h) (bel_drew _) (fun g hg => by simp [Value.ownBlock] at hg; subst hg; simp)
theorem near {W : World} {R i j : Nat} {v u : Value} (hne : i ≠ j) (h : W.cell? ⟨R, j, none⟩ = some u) : (W.setCell ⟨R, i, none⟩ v).cell? ⟨R, j, none⟩ = some u := by
  rw [World.cell?_setCell_other _ _ _ _ (by intro h; simp only [Addr.mk.injEq] at h; omega)]; exact h
theorem set3_0 {W : World} {R : Nat} {v0 v1 v2 u : Value} (h : W.cell? ⟨R, 0, none⟩ = some u) : (((W.setCell ⟨R, 0, none⟩ v0).setCell ⟨R, 1, none⟩ v1).setCell ⟨R, 2, none⟩ v2).cell? ⟨R, 0, none⟩ = some v0 :=
  near (by omega) (near (by omega) (World.cell?_setCell_same _ _ _ h))
theorem set3_1 {W : World} {R : Nat} {v0 v1 v2 u : Value} (h : W.cell? ⟨R, 1, none⟩ = some u) : (((W.setCell ⟨R, 0, none⟩ v0).setCell ⟨R, 1, none⟩ v1).setCell ⟨R, 2, none⟩ v2).cell? ⟨R, 1, none⟩ = some v1 :=
  near (by omega) (World.cell?_setCell_same _ _ _ (near (by omega) h))
theorem set3_2 {W : World} {R : Nat} {v0 v1 v2 u : Value} (h : W.cell? ⟨R, 2, none⟩ = some u) : (((W.setCell ⟨R, 0, none⟩ v0).setCell ⟨R, 1, none⟩ v1).setCell ⟨R, 2, none⟩ v2).cell? ⟨R, 2, none⟩ = some v2 :=
  World.cell?_setCell_same _ _ _ (near (by omega) (near (by omega) h))

set_option maxRecDepth 100000 in
set_option maxHeartbeats 4000000 in
theorem view_any (w : World) (xs ss : List Int) (off : Int) (h4 : xs.length ≤ 4) (hl : ss.length = xs.length) :
    Calls Try.prog 22 #[.agg (vw xs ss off)] w fun e w' => VOk w xs ss off e w' := by
  obtain ⟨i0, hi0, hz0, hz1, hz2⟩ := info_parts info2
  have hone : 0 < 1 := Nat.one_pos
  have Hl := hide hl
  have Hs4 : Hid (ss.length ≤ 4) := by show ss.length ≤ 4; omega
  have hM63 : 0 + xs.length ≤ maxLen := by unfold maxLen; omega
  have hM8 : (0 + xs.length) * 8 ≤ 140737488355328 := by omega
  clear hl
  have h4' : (xs.length : Int) ≤ 4 := by omega
  have hL : Hid (∀ W, Calls Try.prog 32 #[.agg (shp xs)] W fun e w' => ListOk W xs e w') := fun W => list_any W xs h4
  unfold vw
  unfold shp at hL
  generalize hxa0 : xs.getD 0 0 = a0 at hL ⊢
  generalize hxa1 : xs.getD 1 0 = a1 at hL ⊢
  generalize hxa2 : xs.getD 2 0 = a2 at hL ⊢
  generalize hxa3 : xs.getD 3 0 = a3 at hL ⊢
  generalize hsb0 : ss.getD 0 0 = b0
  generalize hsb1 : ss.getD 1 0 = b1
  generalize hsb2 : ss.getD 2 0 = b2
  generalize hsb3 : ss.getD 3 0 = b3
  have E0 := hide hsb0
  have E1 := hide hsb1
  have E2 := hide hsb2
  have E3 := hide hsb3
  clear hxa0 hxa1 hxa2 hxa3 hsb0 hsb1 hsb2 hsb3
  generalize hn : (xs.length : Int) = n at hL h4' ⊢
  have x0 : Ext w ((w.alloc (.cells #[.int .i64 n, .int .i64 a0, .int .i64 a1, .int .i64 a2, .int .i64 a3, .int .i64 b0, .int .i64 b1, .int .i64 b2, .int .i64 b3, .int .i64 off] 58)).alloc (.cells #[.slice none 0 0, .slice none 0 0, .int .i64 0] 25)) := ((Ext.refl w).alloc _ _).alloc _ _
  have y1 : Ext (w.alloc (.cells #[.int .i64 n, .int .i64 a0, .int .i64 a1, .int .i64 a2, .int .i64 a3, .int .i64 b0, .int .i64 b1, .int .i64 b2, .int .i64 b3, .int .i64 off] 58)) ((w.alloc (.cells #[.int .i64 n, .int .i64 a0, .int .i64 a1, .int .i64 a2, .int .i64 a3, .int .i64 b0, .int .i64 b1, .int .i64 b2, .int .i64 b3, .int .i64 off] 58)).alloc (.cells #[.slice none 0 0, .slice none 0 0, .int .i64 0] 25)) := (Ext.refl _).alloc _ _
  have n1 := fun j => new_cell w #[.int .i64 n, .int .i64 a0, .int .i64 a1, .int .i64 a2, .int .i64 a3, .int .i64 b0, .int .i64 b1, .int .i64 b2, .int .i64 b3, .int .i64 off] 58 w.heap.size rfl j
  have n2 := fun j => new_cell (w.alloc (.cells #[.int .i64 n, .int .i64 a0, .int .i64 a1, .int .i64 a2, .int .i64 a3, .int .i64 b0, .int .i64 b1, .int .i64 b2, .int .i64 b3, .int .i64 off] 58)) #[.slice none 0 0, .slice none 0 0, .int .i64 0] 25 (w.heap.size + 1) (by simp) j
  have FF : Hid (FR w ((w.alloc (.cells #[.int .i64 n, .int .i64 a0, .int .i64 a1, .int .i64 a2, .int .i64 a3, .int .i64 b0, .int .i64 b1, .int .i64 b2, .int .i64 b3, .int .i64 off] 58)).alloc (.cells #[.slice none 0 0, .slice none 0 0, .int .i64 0] 25)) n a0 a1 a2 a3 b0 b1 b2 b3 off) :=
    ⟨y1.box (n1 0), y1.box (n1 1), y1.box (n1 2), y1.box (n1 3), y1.box (n1 4), y1.box (n1 5), y1.box (n1 6), y1.box (n1 7), y1.box (n1 8), y1.box (n1 9), n2 0, n2 1, n2 2, fun o => x0.unfrozen (by omega) o, by simp, x0.bl⟩
  clear x0 y1 n1 n2
  go_enter Try.func22, Try.ntmps22
  go_wp2_with fail
  generalize hW : ((w.alloc (.cells #[.int .i64 n, .int .i64 a0, .int .i64 a1, .int .i64 a2, .int .i64 a3, .int .i64 b0, .int .i64 b1, .int .i64 b2, .int .i64 b3, .int .i64 off] 58)).alloc (.cells #[.slice none 0 0, .slice none 0 0, .int .i64 0] 25)) = W0 at FF ⊢
  clear hW
  have FD := hide (FF.out.keep (bel_drew W0))
  have SA : Hid ((fun w' => w'.cell? ⟨w.heap.size, 0, none⟩ = some (.int .i64 n) ∧ w'.cell? ⟨w.heap.size, 1, none⟩ = some (.int .i64 a0) ∧ w'.cell? ⟨w.heap.size, 2, none⟩ = some (.int .i64 a1) ∧ w'.cell? ⟨w.heap.size, 3, none⟩ = some (.int .i64 a2) ∧ w'.cell? ⟨w.heap.size, 4, none⟩ = some (.int .i64 a3) ∧ w'.cell? ⟨w.heap.size, 5, none⟩ = some (.int .i64 b0) ∧ w'.cell? ⟨w.heap.size, 6, none⟩ = some (.int .i64 b1) ∧ w'.cell? ⟨w.heap.size, 7, none⟩ = some (.int .i64 b2) ∧ w'.cell? ⟨w.heap.size, 8, none⟩ = some (.int .i64 b3) ∧ w'.cell? ⟨w.heap.size, 9, none⟩ = some (.int .i64 off)) W0.drew) := ⟨FD.out.c0, FD.out.c1, FD.out.c2, FD.out.c3, FD.out.c4, FD.out.c5, FD.out.c6, FD.out.c7, FD.out.c8, FD.out.c9⟩
  have SD : Hid ((fun w' => w'.cell? ⟨w.heap.size, 0, none⟩ = some (.int .i64 n) ∧ w'.cell? ⟨w.heap.size, 1, none⟩ = some (.int .i64 a0) ∧ w'.cell? ⟨w.heap.size, 2, none⟩ = some (.int .i64 a1) ∧ w'.cell? ⟨w.heap.size, 3, none⟩ = some (.int .i64 a2) ∧ w'.cell? ⟨w.heap.size, 4, none⟩ = some (.int .i64 a3) ∧ w'.cell? ⟨w.heap.size, 5, none⟩ = some (.int .i64 b0) ∧ w'.cell? ⟨w.heap.size, 6, none⟩ = some (.int .i64 b1) ∧ w'.cell? ⟨w.heap.size, 7, none⟩ = some (.int .i64 b2) ∧ w'.cell? ⟨w.heap.size, 8, none⟩ = some (.int .i64 b3) ∧ w'.cell? ⟨w.heap.size, 9, none⟩ = some (.int .i64 off)) (W0.alloc (.cells #[] 2)).drew) := ⟨((FF.out.alloc #[] 2).keep (bel_drew _)).c0, ((FF.out.alloc #[] 2).keep (bel_drew _)).c1, ((FF.out.alloc #[] 2).keep (bel_drew _)).c2, ((FF.out.alloc #[] 2).keep (bel_drew _)).c3, ((FF.out.alloc #[] 2).keep (bel_drew _)).c4, ((FF.out.alloc #[] 2).keep (bel_drew _)).c5, ((FF.out.alloc #[] 2).keep (bel_drew _)).c6, ((FF.out.alloc #[] 2).keep (bel_drew _)).c7, ((FF.out.alloc #[] 2).keep (bel_drew _)).c8, ((FF.out.alloc #[] 2).keep (bel_drew _)).c9⟩
  have hn0 : 0 ≤ n := by omega
  have hnt : n.toNat = xs.length := by omega
  have Hn := hide hn
  clear hn
  go_region_held3 (fun w' => w'.cell? ⟨w.heap.size, 0, none⟩ = some (.int .i64 n) ∧ w'.cell? ⟨w.heap.size, 1, none⟩ = some (.int .i64 a0) ∧ w'.cell? ⟨w.heap.size, 2, none⟩ = some (.int .i64 a1) ∧ w'.cell? ⟨w.heap.size, 3, none⟩ = some (.int .i64 a2) ∧ w'.cell? ⟨w.heap.size, 4, none⟩ = some (.int .i64 a3) ∧ w'.cell? ⟨w.heap.size, 5, none⟩ = some (.int .i64 b0) ∧ w'.cell? ⟨w.heap.size, 6, none⟩ = some (.int .i64 b1) ∧ w'.cell? ⟨w.heap.size, 7, none⟩ = some (.int .i64 b2) ∧ w'.cell? ⟨w.heap.size, 8, none⟩ = some (.int .i64 b3) ∧ w'.cell? ⟨w.heap.size, 9, none⟩ = some (.int .i64 off)) (first | with_reducible exact SA.out | with_reducible exact SL.out | with_reducible exact SD.out | with_reducible exact SM.out | with_reducible exact S5.out | with_reducible exact S6.out | exact SD.out | fail) (first | (go_at_call 32; refine (hL.out _).mono ?_; rintro e w3 ⟨sa, ca, rfl, hO, hB3⟩; have F3 : Hid (FR w w3 n a0 a1 a2 a3 b0 b1 b2 b3 off) := frk FF.out (by first | with_reducible exact Or.inl rfl | with_reducible exact Or.inr rfl) hB3; have SL : Hid ((fun w' => w'.cell? ⟨w.heap.size, 0, none⟩ = some (.int .i64 n) ∧ w'.cell? ⟨w.heap.size, 1, none⟩ = some (.int .i64 a0) ∧ w'.cell? ⟨w.heap.size, 2, none⟩ = some (.int .i64 a1) ∧ w'.cell? ⟨w.heap.size, 3, none⟩ = some (.int .i64 a2) ∧ w'.cell? ⟨w.heap.size, 4, none⟩ = some (.int .i64 a3) ∧ w'.cell? ⟨w.heap.size, 5, none⟩ = some (.int .i64 b0) ∧ w'.cell? ⟨w.heap.size, 6, none⟩ = some (.int .i64 b1) ∧ w'.cell? ⟨w.heap.size, 7, none⟩ = some (.int .i64 b2) ∧ w'.cell? ⟨w.heap.size, 8, none⟩ = some (.int .i64 b3) ∧ w'.cell? ⟨w.heap.size, 9, none⟩ = some (.int .i64 off)) w3) := ⟨F3.out.c0, F3.out.c1, F3.out.c2, F3.out.c3, F3.out.c4, F3.out.c5, F3.out.c6, F3.out.c7, F3.out.c8, F3.out.c9⟩; have SM : Hid ((fun w' => w'.cell? ⟨w.heap.size, 0, none⟩ = some (.int .i64 n) ∧ w'.cell? ⟨w.heap.size, 1, none⟩ = some (.int .i64 a0) ∧ w'.cell? ⟨w.heap.size, 2, none⟩ = some (.int .i64 a1) ∧ w'.cell? ⟨w.heap.size, 3, none⟩ = some (.int .i64 a2) ∧ w'.cell? ⟨w.heap.size, 4, none⟩ = some (.int .i64 a3) ∧ w'.cell? ⟨w.heap.size, 5, none⟩ = some (.int .i64 b0) ∧ w'.cell? ⟨w.heap.size, 6, none⟩ = some (.int .i64 b1) ∧ w'.cell? ⟨w.heap.size, 7, none⟩ = some (.int .i64 b2) ∧ w'.cell? ⟨w.heap.size, 8, none⟩ = some (.int .i64 b3) ∧ w'.cell? ⟨w.heap.size, 9, none⟩ = some (.int .i64 off)) (w3.alloc (.cells #[] 2))) := ⟨(F3.out.alloc #[] 2).c0, (F3.out.alloc #[] 2).c1, (F3.out.alloc #[] 2).c2, (F3.out.alloc #[] 2).c3, (F3.out.alloc #[] 2).c4, (F3.out.alloc #[] 2).c5, (F3.out.alloc #[] 2).c6, (F3.out.alloc #[] 2).c7, (F3.out.alloc #[] 2).c8, (F3.out.alloc #[] 2).c9⟩; have H3 : Hid (OwnI w3 (w.heap.size + 2) sa xs) := hO.low (szk FF.out.sz (by first | with_reducible exact Or.inl rfl | with_reducible exact Or.inr rfl)); have HB := hide (own_ge hO); have HB3 := hide hB3; clear hO hB3) | (refine step_append_at _ (by rfl) (.tmp 6) (.tmp 11) 23 (by rfl) (w.heap.size + 2) 2 i0 (.int .i64 0) 1 8 Try.underlying23 hi0 hz0 hz1 hz2 rfl hone (.slice (some ⟨w3.heap.size, 0, none⟩) 0 0) 0 [] (by rfl) (own_made F3.out.sz) ⟨w.heap.size, 5, none⟩ xs.length 4 (ss.map (Value.int .i64)) (by rfl) (map_len Hl.out) ((F3.out.alloc #[] 2).news Hs4.out E0.out E1.out E2.out E3.out) (one_cells ss) hM63 hM8 (F3.out.alloc #[] 2).sz ?_; intro v5 w5 hown5 hgrow5 hat5; obtain ⟨sb, cb, rfl, hO5⟩ := own_of (w := w) (L := ss) (by omega) hown5; have F5 := hide ((F3.out.alloc #[] 2).grown hgrow5 (by have := FF.out.sz; have := F3.out.sz; first | omega | (simp; omega))); have HT : Hid ((xs = [] ∧ ss = []) ∨ Two (w.heap.size + 2) w5 (.slice sa xs.length ca) (.slice sb ss.length cb) xs ss) := view_two Hl.out (fun hx hs => two_of hx hs (OwnI.alloc H3.out) (own_ne_new H3.out hx) F3.out.sz (by simp) hown5 hgrow5 hat5); have S5 : Hid ((fun w' => w'.cell? ⟨w.heap.size, 0, none⟩ = some (.int .i64 n) ∧ w'.cell? ⟨w.heap.size, 1, none⟩ = some (.int .i64 a0) ∧ w'.cell? ⟨w.heap.size, 2, none⟩ = some (.int .i64 a1) ∧ w'.cell? ⟨w.heap.size, 3, none⟩ = some (.int .i64 a2) ∧ w'.cell? ⟨w.heap.size, 4, none⟩ = some (.int .i64 a3) ∧ w'.cell? ⟨w.heap.size, 5, none⟩ = some (.int .i64 b0) ∧ w'.cell? ⟨w.heap.size, 6, none⟩ = some (.int .i64 b1) ∧ w'.cell? ⟨w.heap.size, 7, none⟩ = some (.int .i64 b2) ∧ w'.cell? ⟨w.heap.size, 8, none⟩ = some (.int .i64 b3) ∧ w'.cell? ⟨w.heap.size, 9, none⟩ = some (.int .i64 off)) w5) := ⟨F5.out.c0, F5.out.c1, F5.out.c2, F5.out.c3, F5.out.c4, F5.out.c5, F5.out.c6, F5.out.c7, F5.out.c8, F5.out.c9⟩; have S6 : Hid ((fun w' => w'.cell? ⟨w.heap.size, 0, none⟩ = some (.int .i64 n) ∧ w'.cell? ⟨w.heap.size, 1, none⟩ = some (.int .i64 a0) ∧ w'.cell? ⟨w.heap.size, 2, none⟩ = some (.int .i64 a1) ∧ w'.cell? ⟨w.heap.size, 3, none⟩ = some (.int .i64 a2) ∧ w'.cell? ⟨w.heap.size, 4, none⟩ = some (.int .i64 a3) ∧ w'.cell? ⟨w.heap.size, 5, none⟩ = some (.int .i64 b0) ∧ w'.cell? ⟨w.heap.size, 6, none⟩ = some (.int .i64 b1) ∧ w'.cell? ⟨w.heap.size, 7, none⟩ = some (.int .i64 b2) ∧ w'.cell? ⟨w.heap.size, 8, none⟩ = some (.int .i64 b3) ∧ w'.cell? ⟨w.heap.size, 9, none⟩ = some (.int .i64 off)) (((w5.setCell ⟨w.heap.size + 1, 0, none⟩ (.slice sa xs.length ca)).setCell ⟨w.heap.size + 1, 1, none⟩ (.slice sb ss.length cb)).setCell ⟨w.heap.size + 1, 2, none⟩ (.int .i64 off))) := ⟨far3 F5.out.c0, far3 F5.out.c1, far3 F5.out.c2, far3 F5.out.c3, far3 F5.out.c4, far3 F5.out.c5, far3 F5.out.c6, far3 F5.out.c7, far3 F5.out.c8, far3 F5.out.c9⟩; have u0 := F5.out.r0; have u1 := F5.out.r1; have u2 := F5.out.r2; have uf := F5.out.rf; clear hown5 hgrow5 hat5 hO5) | (refine step_append_at _ (by rfl) (.tmp 6) (.tmp 11) 23 (by rfl) (w.heap.size + 2) 2 i0 (.int .i64 0) 1 8 Try.underlying23 hi0 hz0 hz1 hz2 rfl hone (.slice (some ⟨W0.heap.size, 0, none⟩) 0 0) 0 [] (by rfl) (own_below (own_made2 FF.out.sz) HB3.out (fun g hg => by simp [Value.ownBlock] at hg; subst hg; simp [World.drew])) ⟨w.heap.size, 5, none⟩ xs.length 4 (ss.map (Value.int .i64)) (by rfl) (map_len Hl.out) (F3.out.news Hs4.out E0.out E1.out E2.out E3.out) (one_cells ss) hM63 hM8 F3.out.sz ?_; intro v5 w5 hown5 hgrow5 hat5; obtain ⟨sb, cb, rfl, hO5⟩ := own_of (w := w) (L := ss) (by omega) hown5; have F5 := hide (F3.out.grown hgrow5 (by have := FF.out.sz; have := F3.out.sz; first | omega | (simp; omega))); have HT : Hid ((xs = [] ∧ ss = []) ∨ Two (w.heap.size + 2) w5 (.slice sa xs.length ca) (.slice sb ss.length cb) xs ss) := view_two Hl.out (fun hx hs => two_of hx hs H3.out (own_ne_old HB.out hx) FF.out.sz (by have := Below.size HB3.out; simp [World.drew] at this; omega) hown5 hgrow5 hat5); have S5 : Hid ((fun w' => w'.cell? ⟨w.heap.size, 0, none⟩ = some (.int .i64 n) ∧ w'.cell? ⟨w.heap.size, 1, none⟩ = some (.int .i64 a0) ∧ w'.cell? ⟨w.heap.size, 2, none⟩ = some (.int .i64 a1) ∧ w'.cell? ⟨w.heap.size, 3, none⟩ = some (.int .i64 a2) ∧ w'.cell? ⟨w.heap.size, 4, none⟩ = some (.int .i64 a3) ∧ w'.cell? ⟨w.heap.size, 5, none⟩ = some (.int .i64 b0) ∧ w'.cell? ⟨w.heap.size, 6, none⟩ = some (.int .i64 b1) ∧ w'.cell? ⟨w.heap.size, 7, none⟩ = some (.int .i64 b2) ∧ w'.cell? ⟨w.heap.size, 8, none⟩ = some (.int .i64 b3) ∧ w'.cell? ⟨w.heap.size, 9, none⟩ = some (.int .i64 off)) w5) := ⟨F5.out.c0, F5.out.c1, F5.out.c2, F5.out.c3, F5.out.c4, F5.out.c5, F5.out.c6, F5.out.c7, F5.out.c8, F5.out.c9⟩; have S6 : Hid ((fun w' => w'.cell? ⟨w.heap.size, 0, none⟩ = some (.int .i64 n) ∧ w'.cell? ⟨w.heap.size, 1, none⟩ = some (.int .i64 a0) ∧ w'.cell? ⟨w.heap.size, 2, none⟩ = some (.int .i64 a1) ∧ w'.cell? ⟨w.heap.size, 3, none⟩ = some (.int .i64 a2) ∧ w'.cell? ⟨w.heap.size, 4, none⟩ = some (.int .i64 a3) ∧ w'.cell? ⟨w.heap.size, 5, none⟩ = some (.int .i64 b0) ∧ w'.cell? ⟨w.heap.size, 6, none⟩ = some (.int .i64 b1) ∧ w'.cell? ⟨w.heap.size, 7, none⟩ = some (.int .i64 b2) ∧ w'.cell? ⟨w.heap.size, 8, none⟩ = some (.int .i64 b3) ∧ w'.cell? ⟨w.heap.size, 9, none⟩ = some (.int .i64 off)) (((w5.setCell ⟨w.heap.size + 1, 0, none⟩ (.slice sa xs.length ca)).setCell ⟨w.heap.size + 1, 1, none⟩ (.slice sb ss.length cb)).setCell ⟨w.heap.size + 1, 2, none⟩ (.int .i64 off))) := ⟨far3 F5.out.c0, far3 F5.out.c1, far3 F5.out.c2, far3 F5.out.c3, far3 F5.out.c4, far3 F5.out.c5, far3 F5.out.c6, far3 F5.out.c7, far3 F5.out.c8, far3 F5.out.c9⟩; have u0 := F5.out.r0; have u1 := F5.out.r1; have u2 := F5.out.r2; have uf := F5.out.rf; clear hown5 hgrow5 hat5 hO5) | fail)
  all_goals go_wp2
  all_goals
    have q0 : (((w5.setCell ⟨w.heap.size + 1, 0, none⟩ (.slice sa xs.length ca)).setCell ⟨w.heap.size + 1, 1, none⟩ (.slice sb ss.length cb)).setCell ⟨w.heap.size + 1, 2, none⟩ (.int .i64 off)).cell? ⟨w.heap.size + 1, 0, none⟩ = some (.slice sa xs.length ca) := set3_0 F5.out.r0
    have q1 : (((w5.setCell ⟨w.heap.size + 1, 0, none⟩ (.slice sa xs.length ca)).setCell ⟨w.heap.size + 1, 1, none⟩ (.slice sb ss.length cb)).setCell ⟨w.heap.size + 1, 2, none⟩ (.int .i64 off)).cell? ⟨w.heap.size + 1, 1, none⟩ = some (.slice sb ss.length cb) := set3_1 F5.out.r1
    have q2 : (((w5.setCell ⟨w.heap.size + 1, 0, none⟩ (.slice sa xs.length ca)).setCell ⟨w.heap.size + 1, 1, none⟩ (.slice sb ss.length cb)).setCell ⟨w.heap.size + 1, 2, none⟩ (.int .i64 off)).cell? ⟨w.heap.size + 1, 2, none⟩ = some (.int .i64 off) := set3_2 F5.out.r2
    exact bodyPost_ret (v := .agg #[.slice sa xs.length ca, .slice sb ss.length cb, .int .i64 off]) (by simp [results, Try.results22, go_sem, q0, q1, q2]) rfl (view_done F5.out HT.out)
end Go.Proofs.Ytanbgpmbccianaa
namespace Go.Proofs.Ytanbgpmbccianaa
open Go.ChangeShapes Go.RowKit
set_option linter.unusedSimpArgs false
set_option linter.unusedVariables false

/-- What szView leaves. -/
def szL (n m : Nat) : Int := if (1048576 : Int) - n < 0 then -1 else if (1048576 : Int) - n - m < 0 then -1 else (1048576 : Int) - n - m

end Go.Proofs.Ytanbgpmbccianaa
namespace Go.Proofs.Ytanbgpmbccianaa
open Go.ChangeShapes Go.RowKit
set_option linter.unusedSimpArgs false
set_option linter.unusedVariables false

def ToVOk (w : World) (xs ss : List Int) (off : Int) (e : Ending) (w' : World) : Prop :=
  ∃ b c : Nat, e = .returned (.agg #[.slice (some ⟨b, 0, none⟩) xs.length xs.length, .slice (some ⟨c, 0, none⟩) ss.length ss.length, .int .i64 off]) ∧ w.heap.size ≤ b ∧ b < c ∧ c < w'.heap.size ∧ Row w' b 0 xs ∧ Row w' c 0 ss ∧ Ext w w'

end Go.Proofs.Ytanbgpmbccianaa
namespace Go.Proofs.Ytanbgpmbccianaa
open Go.ChangeShapes Go.RowKit
set_option linter.unusedSimpArgs false
set_option linter.unusedVariables false

theorem fixView_any {w : World} {vS vT : Value} {xs ss : List Int} (hS : Ints w vS xs) (hT : Ints w vT ss) (off : Int) (lx : xs.length ≤ 1048576) (ls : ss.length ≤ 1048576) :
    Calls Try.prog 17 #[.agg #[vS, vT, .int .i64 off]] w fun e w' => FixVOk w xs ss off e w' := by
  by_cases h : Good xs ∧ ss.length = xs.length ∧ (0 ≤ off ∧ off ≤ 4096)
  · exact fixView_good hS hT off lx ls h.1 h.2.1 h.2.2
  · exact fixView_bad hS hT off lx ls h

end Go.Proofs.Ytanbgpmbccianaa
namespace Go.Proofs.Ytanbgpmbccianaa
open Go.ChangeShapes Go.RowKit
set_option linter.unusedSimpArgs false
set_option linter.unusedVariables false

theorem Two.low {lo l : Nat} {W : World} {v u : Value} {xs ss : List Int} (h : Two l W v u xs ss) (hl : lo ≤ l) : Two lo W v u xs ss := by
  obtain ⟨g, k, h1, h2, h3⟩ := h
  exact ⟨g, k, by omega, by omega, h3⟩

/-- The answer of a call that gives a view. -/
def VROk (w : World) (c : Int) (L S : List Int) (o : Int) (e : Ending) (w' : World) : Prop :=
  ∃ (sa sb : Option Addr) (ca cb : Nat), e = .returned (.agg #[.int .i64 c, .slice sa L.length ca, .slice sb S.length cb, .int .i64 o]) ∧ Two w.heap.size w' (.slice sa L.length ca) (.slice sb S.length cb) L S ∧ Bel w w'

theorem chain4 {w W : World} {v0 v1 v2 v3 : Value} (h : Bel w W) : Bel w ((((W.setCell ⟨w.heap.size + 1, 0, none⟩ v0).setCell ⟨w.heap.size + 1, 1, none⟩ v1).setCell ⟨w.heap.size + 1, 2, none⟩ v2).setCell ⟨w.heap.size + 1, 3, none⟩ v3) :=
  (((h.setCell (by show w.heap.size ≤ w.heap.size + 1; omega) _).setCell (by show w.heap.size ≤ w.heap.size + 1; omega) _).setCell (by show w.heap.size ≤ w.heap.size + 1; omega) _).setCell (by show w.heap.size ≤ w.heap.size + 1; omega) _
theorem chain4m (R : Nat) (W : World) (v0 v1 v2 v3 : Value) : Mut R W ((((W.setCell ⟨R, 0, none⟩ v0).setCell ⟨R, 1, none⟩ v1).setCell ⟨R, 2, none⟩ v2).setCell ⟨R, 3, none⟩ v3) :=
  ((((Mut.refl _ _).setCell _ _).setCell _ _).setCell _ _).setCell _ _
theorem set4_0 {W : World} {R : Nat} {v0 v1 v2 v3 u : Value} (h : W.cell? ⟨R, 0, none⟩ = some u) : ((((W.setCell ⟨R, 0, none⟩ v0).setCell ⟨R, 1, none⟩ v1).setCell ⟨R, 2, none⟩ v2).setCell ⟨R, 3, none⟩ v3).cell? ⟨R, 0, none⟩ = some v0 :=
  near (by omega) (set3_0 h)
theorem set4_1 {W : World} {R : Nat} {v0 v1 v2 v3 u : Value} (h : W.cell? ⟨R, 1, none⟩ = some u) : ((((W.setCell ⟨R, 0, none⟩ v0).setCell ⟨R, 1, none⟩ v1).setCell ⟨R, 2, none⟩ v2).setCell ⟨R, 3, none⟩ v3).cell? ⟨R, 1, none⟩ = some v1 :=
  near (by omega) (set3_1 h)
theorem set4_2 {W : World} {R : Nat} {v0 v1 v2 v3 u : Value} (h : W.cell? ⟨R, 2, none⟩ = some u) : ((((W.setCell ⟨R, 0, none⟩ v0).setCell ⟨R, 1, none⟩ v1).setCell ⟨R, 2, none⟩ v2).setCell ⟨R, 3, none⟩ v3).cell? ⟨R, 2, none⟩ = some v2 :=
  near (by omega) (set3_2 h)
theorem set4_3 {W : World} {R : Nat} {v0 v1 v2 v3 u : Value} (h : W.cell? ⟨R, 3, none⟩ = some u) : ((((W.setCell ⟨R, 0, none⟩ v0).setCell ⟨R, 1, none⟩ v1).setCell ⟨R, 2, none⟩ v2).setCell ⟨R, 3, none⟩ v3).cell? ⟨R, 3, none⟩ = some v3 :=
  World.cell?_setCell_same _ _ _ (near (by omega) (near (by omega) (near (by omega) h)))

/-- A refusal. -/
theorem vr_bad {w W : World} {c : Int} {L S : List Int} {o k : Int} (hr : (c, L, S, o) = (k, [], [], 0)) (h : Bel w W) (hs : w.heap.size + 2 ≤ W.heap.size) {v0 v1 v2 v3 : Value} :
    VROk w c L S o (.returned (.agg #[.int .i64 k, .slice none 0 0, .slice none 0 0, .int .i64 0])) ((((W.setCell ⟨w.heap.size + 1, 0, none⟩ v0).setCell ⟨w.heap.size + 1, 1, none⟩ v1).setCell ⟨w.heap.size + 1, 2, none⟩ v2).setCell ⟨w.heap.size + 1, 3, none⟩ v3) := by
  simp only [Prod.mk.injEq] at hr
  obtain ⟨rfl, rfl, rfl, rfl⟩ := hr
  exact ⟨none, none, 0, 0, rfl, Two.nil (Nat.le_trans hs (chain4m _ _ _ _ _ _).size), chain4 h⟩

theorem vr_good {w W A : World} {c : Int} {L S : List Int} {o : Int} {sa sb : Option Addr} {ca cb : Nat} {L' S' : List Int} {o' : Int} (hr : (c, L, S, o) = (0, L', S', o')) (h : Bel w W) (hs : w.heap.size + 2 ≤ A.heap.size) (ht : Two A.heap.size W (.slice sa L'.length ca) (.slice sb S'.length cb) L' S') {v0 v1 v2 v3 : Value} :
    VROk w c L S o (.returned (.agg #[.int .i64 0, .slice sa L'.length ca, .slice sb S'.length cb, .int .i64 o'])) ((((W.setCell ⟨w.heap.size + 1, 0, none⟩ v0).setCell ⟨w.heap.size + 1, 1, none⟩ v1).setCell ⟨w.heap.size + 1, 2, none⟩ v2).setCell ⟨w.heap.size + 1, 3, none⟩ v3) := by
  simp only [Prod.mk.injEq] at hr
  obtain ⟨rfl, rfl, rfl, rfl⟩ := hr
  exact ⟨sa, sb, ca, cb, rfl, (ht.mut (chain4m _ _ _ _ _ _) (by omega)).low (by omega), chain4 h⟩

def brL (xs ss : List Int) (off : Int) (ys : List Int) : Int × List Int × List Int × Int :=
  if ValidV xs ss off then (if Good ys ∧ Strs xs ys then (0, ys, bstr xs ss ys, off) else (6, [], [], 0)) else (12, [], [], 0)

end Go.Proofs.Ytanbgpmbccianaa
namespace Go.Proofs.Ytanbgpmbccianaa
open Go.ChangeShapes Go.RowKit
set_option linter.unusedSimpArgs false
set_option linter.unusedVariables false

/-- What a list looks like that is owned. -/
theorem own_form {W : World} {base n : Nat} {v : Value} {L : List Int} (h : W.ownsRow base 2 1 v n (L.map (Value.int .i64))) : ∃ sa cap, v = .slice sa n cap := by
  rcases h.2 with ⟨h1, h2⟩ | ⟨g, cap, cur, h1, _⟩
  · exact ⟨none, 0, by rw [h1, h2]⟩
  · exact ⟨_, cap, h1⟩

/-- A view that is built: v at block w.heap.size, the answer behind it, out at B with its two lists. -/
structure BW (w wr : World) (B : Nat) (vS vT : Value) (off : Int) (Ls Ss : List Int) (vA vB : Value) : Prop where
  p0 : wr.cell? ⟨w.heap.size, 0, none⟩ = some vS
  p1 : wr.cell? ⟨w.heap.size, 1, none⟩ = some vT
  r0 : wr.cell? ⟨w.heap.size + 1, 0, none⟩ = some (.int .i64 0)
  r1 : wr.cell? ⟨w.heap.size + 1, 1, none⟩ = some (.slice none 0 0)
  r2 : wr.cell? ⟨w.heap.size + 1, 2, none⟩ = some (.slice none 0 0)
  r3 : wr.cell? ⟨w.heap.size + 1, 3, none⟩ = some (.int .i64 0)
  rf : ∀ o, wr.frozen? ⟨w.heap.size + 1, o, none⟩ = false
  o0 : wr.cell? ⟨B, 0, none⟩ = some vA
  o1 : wr.cell? ⟨B, 1, none⟩ = some vB
  o2 : wr.cell? ⟨B, 2, none⟩ = some (.int .i64 off)
  bf : ∀ o, wr.frozen? ⟨B, o, none⟩ = false
  ownA : wr.ownsRow (B + 1) 2 1 vA Ls.length (Ls.map (Value.int .i64))
  ownB : wr.ownsRow (B + 1) 2 1 vB Ss.length (Ss.map (Value.int .i64))
  dj : vA.ownBlock = none ∨ vA.ownBlock ≠ vB.ownBlock
  bl : Bel w wr
  sz : B + 1 ≤ wr.heap.size
  hB : w.heap.size + 1 < B

/-- Blocks up to B are kept. -/
theorem BW.low {w wr : World} {B : Nat} {vS vT : Value} {off : Int} {Ls Ss : List Int} {vA vB : Value} (h : BW w wr B vS vT off Ls Ss vA vB) {W : World} (hk : ∀ k, k < B + 1 → W.heap[k]? = wr.heap[k]?) :
    (∀ {b o v}, b < B + 1 → wr.cell? ⟨b, o, none⟩ = some v → W.cell? ⟨b, o, none⟩ = some v) ∧ (∀ {b}, b < B + 1 → ∀ o, W.frozen? ⟨b, o, none⟩ = wr.frozen? ⟨b, o, none⟩) :=
  ⟨fun hb hc => (World.cell?_of_block (hk _ hb)).trans hc, fun hb o => World.frozen?_of_block (hk _ hb)⟩

theorem BW.stepA {w wr w3 : World} {B : Nat} {vS vT : Value} {off : Int} {Ls Ss : List Int} {vA vB : Value} (h : BW w wr B vS vT off Ls Ss vA vB) (x : Int) {v3 : Value}
    (hown : w3.ownsRow (B + 1) 2 1 v3 (Ls.length + 1) (Ls.map (Value.int .i64) ++ [.int .i64 x])) (hgrow : (wr.alloc (.cells #[.int .i64 x] 2)).grownBy w3 vA.ownBlock)
    (hat : v3.ownBlock = vA.ownBlock ∨ v3.ownBlock = some (wr.alloc (.cells #[.int .i64 x] 2)).heap.size) : BW w (w3.setCell ⟨B, 0, none⟩ v3) B vS vT off (Ls ++ [x]) Ss v3 vB := by
  have hs := h.sz
  have hB := h.hB
  have hA : ∀ g, vA.ownBlock = some g → B + 1 ≤ g := fun g hg => (h.ownA.lt g hg).1
  have hk : ∀ k, k < B + 1 → w3.heap[k]? = wr.heap[k]? := fun k hk => by
    rw [hgrow.block k (by simp; omega) (by intro e; have := hA k e.symm; omega)]
    exact ((Ext.refl wr).alloc #[.int .i64 x] 2).bl.block k (by omega)
  obtain ⟨cc, ff⟩ := h.low hk
  have m : Mut B w3 (w3.setCell ⟨B, 0, none⟩ v3) := (Mut.refl _ _).setCell _ _
  have h3 : v3.ownBlock ≠ some B := fun e => by
    have := (hown.lt B e).1
    omega
  have hBB : vB.ownBlock ≠ some B := fun e => by
    have := (h.ownB.lt B e).1
    omega
  have hsz := hgrow.size
  simp at hsz
  refine ⟨m.box (by omega) (cc (by omega) h.p0), m.box (by omega) (cc (by omega) h.p1), m.box (by omega) (cc (by omega) h.r0), m.box (by omega) (cc (by omega) h.r1), m.box (by omega) (cc (by omega) h.r2), m.box (by omega) (cc (by omega) h.r3), fun o => (m.fz _).trans ((ff (by omega) o).trans (h.rf o)),
    World.cell?_setCell_same _ _ _ (cc (by omega) h.o0), near (by omega) (cc (by omega) h.o1), near (by omega) (cc (by omega) h.o2), fun o => (m.fz _).trans ((ff (by omega) o).trans (h.bf o)), ?_, ?_, ?_, ?_, ?_, hB⟩
  · have e : (Ls ++ [x]).map (Value.int .i64) = Ls.map (Value.int .i64) ++ [.int .i64 x] := by simp
    rw [e, List.length_append]
    exact ownsRow_setCell_other hown h3 _
  · refine ownsRow_setCell_other ((h.ownB.alloc _).kept hgrow ?_) hBB _
    cases hb : vB.ownBlock with
    | none => exact Or.inl rfl
    | some b =>
      refine Or.inr fun e => ?_
      rcases h.dj with q | q
      · rw [q] at e; cases e
      · exact q (by rw [hb, ← e])
  · rcases hat with q | q
    · rw [q]; exact h.dj
    · refine Or.inr fun e => ?_
      rw [q] at e
      have := (h.ownB.lt _ e.symm).2
      simp at this
      omega
  · exact ((h.bl.alloc (Below.size h.bl) _).grown hgrow (by have := Below.size h.bl; simp; omega) (fun j hj => by have := hA j hj; omega)).setCell (by show w.heap.size ≤ B; omega) _
  · have : w3.heap.size ≤ (w3.setCell ⟨B, 0, none⟩ v3).heap.size := m.size
    omega

theorem BW.stepB {w wr w3 : World} {B : Nat} {vS vT : Value} {off : Int} {Ls Ss : List Int} {vA vB : Value} (h : BW w wr B vS vT off Ls Ss vA vB) (x : Int) {v3 : Value}
    (hown : w3.ownsRow (B + 1) 2 1 v3 (Ss.length + 1) (Ss.map (Value.int .i64) ++ [.int .i64 x])) (hgrow : (wr.alloc (.cells #[.int .i64 x] 2)).grownBy w3 vB.ownBlock)
    (hat : v3.ownBlock = vB.ownBlock ∨ v3.ownBlock = some (wr.alloc (.cells #[.int .i64 x] 2)).heap.size) : BW w (w3.setCell ⟨B, 1, none⟩ v3) B vS vT off Ls (Ss ++ [x]) vA v3 := by
  have hs := h.sz
  have hB := h.hB
  have hA : ∀ g, vB.ownBlock = some g → B + 1 ≤ g := fun g hg => (h.ownB.lt g hg).1
  have hk : ∀ k, k < B + 1 → w3.heap[k]? = wr.heap[k]? := fun k hk => by
    rw [hgrow.block k (by simp; omega) (by intro e; have := hA k e.symm; omega)]
    exact ((Ext.refl wr).alloc #[.int .i64 x] 2).bl.block k (by omega)
  obtain ⟨cc, ff⟩ := h.low hk
  have m : Mut B w3 (w3.setCell ⟨B, 1, none⟩ v3) := (Mut.refl _ _).setCell _ _
  have h3 : v3.ownBlock ≠ some B := fun e => by
    have := (hown.lt B e).1
    omega
  have hBB : vA.ownBlock ≠ some B := fun e => by
    have := (h.ownA.lt B e).1
    omega
  have hsz := hgrow.size
  simp at hsz
  refine ⟨m.box (by omega) (cc (by omega) h.p0), m.box (by omega) (cc (by omega) h.p1), m.box (by omega) (cc (by omega) h.r0), m.box (by omega) (cc (by omega) h.r1), m.box (by omega) (cc (by omega) h.r2), m.box (by omega) (cc (by omega) h.r3), fun o => (m.fz _).trans ((ff (by omega) o).trans (h.rf o)),
    near (by omega) (cc (by omega) h.o0), World.cell?_setCell_same _ _ _ (cc (by omega) h.o1), near (by omega) (cc (by omega) h.o2), fun o => (m.fz _).trans ((ff (by omega) o).trans (h.bf o)), ?_, ?_, ?_, ?_, ?_, hB⟩
  · refine ownsRow_setCell_other ((h.ownA.alloc _).kept hgrow ?_) hBB _
    exact h.dj
  · have e : (Ss ++ [x]).map (Value.int .i64) = Ss.map (Value.int .i64) ++ [.int .i64 x] := by simp
    rw [e, List.length_append]
    exact ownsRow_setCell_other hown h3 _
  · rcases h.dj with d | d
    · exact Or.inl d
    · rcases hat with q | q
      · rw [q]; exact Or.inr d
      · refine Or.inr fun e => ?_
        rw [q] at e
        have := (h.ownA.lt _ e).2
        simp at this
        omega
  · exact ((h.bl.alloc (Below.size h.bl) _).grown hgrow (by have := Below.size h.bl; simp; omega) (fun j hj => by have := hA j hj; omega)).setCell (by show w.heap.size ≤ B; omega) _
  · have : w3.heap.size ≤ (w3.setCell ⟨B, 1, none⟩ v3).heap.size := m.size
    omega

/-- The answer of the specification. -/
def VSOk (w : World) (c : Int) (L S : List Int) (o : Int) (e : Ending) (w' : World) : Prop :=
  ∃ (sa sb : Option Addr) (ca cb : Nat), e = .returned (.agg #[.int .i64 c, .slice sa L.length ca, .slice sb S.length cb, .int .i64 o]) ∧ IntsB w' w.heap.size w'.heap.size (.slice sa L.length ca) L ∧ IntsB w' w.heap.size w'.heap.size (.slice sb S.length cb) S ∧ Bel w w'

/-- The answer of the specification, with what it owns. -/
def VSOw (w : World) (c : Int) (L S : List Int) (o : Int) (e : Ending) (w' : World) : Prop :=
  ∃ (sa sb : Option Addr) (ca cb : Nat), e = .returned (.agg #[.int .i64 c, .slice sa L.length ca, .slice sb S.length cb, .int .i64 o]) ∧ w'.ownsRow w.heap.size 2 1 (.slice sa L.length ca) L.length (L.map (Value.int .i64)) ∧ w'.ownsRow w.heap.size 2 1 (.slice sb S.length cb) S.length (S.map (Value.int .i64)) ∧ ((Value.slice sa L.length ca).ownBlock = none ∨ (Value.slice sa L.length ca).ownBlock ≠ (Value.slice sb S.length cb).ownBlock) ∧ Bel w w'
theorem own_low {W : World} {base lo n : Nat} {v : Value} {L : List Value} (h : W.ownsRow base 2 1 v n L) (hb : lo ≤ base) : W.ownsRow lo 2 1 v n L := by
  refine ⟨h.1, ?_⟩
  rcases h.2 with q | ⟨g, cap, cur, h1, h2, h3⟩
  · exact Or.inl q
  · exact Or.inr ⟨g, cap, cur, h1, by omega, h3⟩
theorem own_chain4 {W : World} {base n R : Nat} {v : Value} {L : List Value} (h : W.ownsRow base 2 1 v n L) (hb : R < base) (v0 v1 v2 v3 : Value) : ((((W.setCell ⟨R, 0, none⟩ v0).setCell ⟨R, 1, none⟩ v1).setCell ⟨R, 2, none⟩ v2).setCell ⟨R, 3, none⟩ v3).ownsRow base 2 1 v n L :=
  ownsRow_setCell_below (ownsRow_setCell_below (ownsRow_setCell_below (ownsRow_setCell_below h (a := ⟨R, 0, none⟩) hb _) (a := ⟨R, 1, none⟩) hb _) (a := ⟨R, 2, none⟩) hb _) (a := ⟨R, 3, none⟩) hb _
theorem vs_bad {w W : World} {c : Int} {L S : List Int} {o k : Int} (hr : (c, L, S, o) = (k, [], [], 0)) (h : Bel w W) {v0 v1 v2 v3 : Value} :
    VSOw w c L S o (.returned (.agg #[.int .i64 k, .slice none 0 0, .slice none 0 0, .int .i64 0])) ((((W.setCell ⟨w.heap.size + 1, 0, none⟩ v0).setCell ⟨w.heap.size + 1, 1, none⟩ v1).setCell ⟨w.heap.size + 1, 2, none⟩ v2).setCell ⟨w.heap.size + 1, 3, none⟩ v3) := by
  simp only [Prod.mk.injEq] at hr
  obtain ⟨rfl, rfl, rfl, rfl⟩ := hr
  exact ⟨none, none, 0, 0, rfl, World.ownsRow_nil _ _ _ _, World.ownsRow_nil _ _ _ _, Or.inl rfl, chain4 h⟩

theorem own_intsB {W : World} {base n lo : Nat} {sa : Option Addr} {cap : Nat} {L : List Int} (h : W.ownsRow base 2 1 (.slice sa n cap) n (L.map (Value.int .i64))) (hb : lo ≤ base) : IntsB W lo W.heap.size (.slice sa n cap) L := by
  have hl : n = L.length := by have := h.1; simp at this; omega
  subst hl
  refine ⟨sa, cap, rfl, ?_⟩
  by_cases e : L = []
  · exact Or.inl e
  rcases h.2 with ⟨h1, h2⟩ | ⟨g, cap2, cur, h1, h2, h3, _⟩
  · exact absurd (List.eq_nil_of_length_eq_zero h2) e
  have hg : sa = some ⟨g, 0, none⟩ := by simp at h1; exact h1.1
  subst hg
  obtain ⟨hrow, _⟩ := row_of_own h
  exact Or.inr ⟨g, 0, rfl, by omega, cell_lt (hrow 0 (List.length_pos_iff.2 e)), hrow⟩

theorem VSOw.old {w W : World} {c : Int} {L S : List Int} {o : Int} {e : Ending} (h : VSOw w c L S o e W) : VSOk w c L S o e W := by
  obtain ⟨sa, sb, ca, cb, he, h1, h2, _, hB⟩ := h
  exact ⟨sa, sb, ca, cb, he, own_intsB h1 (Nat.le_refl _), own_intsB h2 (Nat.le_refl _), hB⟩

theorem vs_good {w wr : World} {B : Nat} {vS vT : Value} {off : Int} {Ls Ss : List Int} {sa sb : Option Addr} {na nb ca cb : Nat} (h : BW w wr B vS vT off Ls Ss (.slice sa na ca) (.slice sb nb cb)) (hna : na = Ls.length) (hnb : nb = Ss.length) {c : Int} {L S : List Int} {o : Int} (hr : (c, L, S, o) = (0, Ls, Ss, off)) {v0 v1 v2 v3 : Value} :
    VSOw w c L S o (.returned (.agg #[.int .i64 0, .slice sa na ca, .slice sb nb cb, .int .i64 off])) ((((wr.setCell ⟨w.heap.size + 1, 0, none⟩ v0).setCell ⟨w.heap.size + 1, 1, none⟩ v1).setCell ⟨w.heap.size + 1, 2, none⟩ v2).setCell ⟨w.heap.size + 1, 3, none⟩ v3) := by
  simp only [Prod.mk.injEq] at hr
  obtain ⟨rfl, rfl, rfl, rfl⟩ := hr
  subst hna
  subst hnb
  have hB := h.hB
  exact ⟨sa, sb, ca, cb, rfl, own_low (own_chain4 h.ownA (by omega) _ _ _ _) (by omega), own_low (own_chain4 h.ownB (by omega) _ _ _ _) (by omega), h.dj, chain4 h.bl⟩

/-- The start. -/
theorem BW.start {w W : World} {vS vT : Value} {off : Int} (hs : w.heap.size + 1 < W.heap.size) (hb : Bel w W) (p0 : W.cell? ⟨w.heap.size, 0, none⟩ = some vS) (p1 : W.cell? ⟨w.heap.size, 1, none⟩ = some vT)
    (r0 : W.cell? ⟨w.heap.size + 1, 0, none⟩ = some (.int .i64 0)) (r1 : W.cell? ⟨w.heap.size + 1, 1, none⟩ = some (.slice none 0 0)) (r2 : W.cell? ⟨w.heap.size + 1, 2, none⟩ = some (.slice none 0 0)) (r3 : W.cell? ⟨w.heap.size + 1, 3, none⟩ = some (.int .i64 0)) (rf : ∀ o, W.frozen? ⟨w.heap.size + 1, o, none⟩ = false) :
    BW w (W.alloc (.cells #[.slice none 0 0, .slice none 0 0, .int .i64 off] 25)) W.heap.size vS vT off [] [] (.slice none 0 0) (.slice none 0 0) := by
  have x : Ext W (W.alloc (.cells #[.slice none 0 0, .slice none 0 0, .int .i64 off] 25)) := (Ext.refl W).alloc _ _
  have n := fun j => new_cell W #[.slice none 0 0, .slice none 0 0, .int .i64 off] 25 W.heap.size rfl j
  exact ⟨x.box p0, x.box p1, x.box r0, x.box r1, x.box r2, x.box r3, fun o => (x.fz _).trans (rf o), n 0, n 1, n 2, fun o => x.unfrozen (Nat.le_refl _) o, World.ownsRow_nil _ _ _ _, World.ownsRow_nil _ _ _ _, Or.inl rfl, Bel.tr hb x.bl, by simp, hs⟩
end Go.Proofs.Ytanbgpmbccianaa
