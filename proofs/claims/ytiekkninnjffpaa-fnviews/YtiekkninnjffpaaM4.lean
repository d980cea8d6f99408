import Derived.Test.YtiekkninnjffpaaSpecVV
import Derived.Deep.RegionWith
import Derived.Deep.RegionHeld3
import Derived.Deep.RegionHeldLaw
import Derived.Test.YtiekkninnjffpaaM3
namespace Go.Proofs.Ytiekkninnjffpaa
open Go.ChangeShapes Go.RowKit
set_option linter.unusedSimpArgs false
set_option linter.unusedVariables false

/-- A view as the program keeps it. -/
def vw (xs ss : List Int) (off : Int) : Array Value := #[.int .i64 xs.length, .int .i64 (xs.getD 0 0), .int .i64 (xs.getD 1 0), .int .i64 (xs.getD 2 0), .int .i64 (xs.getD 3 0), .int .i64 (ss.getD 0 0), .int .i64 (ss.getD 1 0), .int .i64 (ss.getD 2 0), .int .i64 (ss.getD 3 0), .int .i64 off]

def inB (xs ss : List Int) (off : Int) : Bool := decide (prod xs = 0 ∨ (0 ≤ least xs ss off ∧ most xs ss off < 4096))

theorem least_snoc : ∀ (xs ss : List Int) (n s a : Int), xs.length = ss.length → least (xs ++ [n]) (ss ++ [s]) a = least xs ss a + min (s * (n - 1)) 0
  | [], [], n, s, a, _ => by simp [least]
  | [], _ :: _, n, s, a, h => by simp at h
  | _ :: _, [], n, s, a, h => by simp at h
  | m :: ms, t :: ts, n, s, a, h => by
    simp only [List.cons_append, least]
    exact least_snoc ms ts n s _ (by simpa using h)
theorem most_snoc : ∀ (xs ss : List Int) (n s a : Int), xs.length = ss.length → most (xs ++ [n]) (ss ++ [s]) a = most xs ss a + max (s * (n - 1)) 0
  | [], [], n, s, a, _ => by simp [most]
  | [], _ :: _, n, s, a, h => by simp at h
  | _ :: _, [], n, s, a, h => by simp at h
  | m :: ms, t :: ts, n, s, a, h => by
    simp only [List.cons_append, most]
    exact most_snoc ms ts n s _ (by simpa using h)
theorem take_snoc (xs : List Int) (k : Nat) (hk : k < xs.length) : xs.take (k + 1) = xs.take k ++ [xs.getD k 0] := by
  rw [List.take_add_one, List.getElem?_eq_getElem hk, List.getD_eq_getElem?_getD, List.getElem?_eq_getElem hk]; rfl
theorem least_take (xs ss : List Int) (off : Int) (k : Nat) (hk : k < xs.length) (hl : ss.length = xs.length) :
    least (xs.take (k + 1)) (ss.take (k + 1)) off = least (xs.take k) (ss.take k) off + min (ss.getD k 0 * (xs.getD k 0 - 1)) 0 := by
  rw [take_snoc xs k hk, take_snoc ss k (by omega), least_snoc _ _ _ _ _ (by simp; omega)]
theorem most_take (xs ss : List Int) (off : Int) (k : Nat) (hk : k < xs.length) (hl : ss.length = xs.length) :
    most (xs.take (k + 1)) (ss.take (k + 1)) off = most (xs.take k) (ss.take k) off + max (ss.getD k 0 * (xs.getD k 0 - 1)) 0 := by
  rw [take_snoc xs k hk, take_snoc ss k (by omega), most_snoc _ _ _ _ _ (by simp; omega)]
theorem far_bd {n s : Int} (hn : 0 ≤ n ∧ n ≤ 4096) (hs : -4096 ≤ s ∧ s ≤ 4096) : -16777216 ≤ s * (n - 1) ∧ s * (n - 1) ≤ 16777216 := by
  by_cases h : n = 0
  · subst h; omega
  · have := mul_between (n - 1) 4096 s (by omega) (by omega)
    rw [Int.mul_comm s (n - 1)]
    omega
theorem ends_bd (xs ss : List Int) (off : Int) (hl : ss.length = xs.length) (hr : InR xs xs.length) (hs : InS ss ss.length) (ho : 0 ≤ off ∧ off ≤ 4096) :
    ∀ k, k ≤ xs.length → (-((k : Int) * 16777216) ≤ least (xs.take k) (ss.take k) off ∧ least (xs.take k) (ss.take k) off ≤ 4096 ∧ 0 ≤ most (xs.take k) (ss.take k) off ∧ most (xs.take k) (ss.take k) off ≤ 4096 + (k : Int) * 16777216)
  | 0, _ => by simp [least, most]; omega
  | k + 1, hk => by
    have ih := ends_bd xs ss off hl hr hs ho k (by omega)
    rw [least_take xs ss off k (by omega) hl, most_take xs ss off k (by omega) hl]
    have := far_bd (hr k (by omega)) (hs k (by omega))
    omega

set_option maxRecDepth 100000 in
set_option maxHeartbeats 2000000 in
theorem within_any (w : World) (xs ss : List Int) (off : Int) (h4 : xs.length ≤ 4) (hr : InR xs xs.length) (hl : ss.length = xs.length) (hs : InS ss ss.length) (ho : 0 ≤ off ∧ off ≤ 4096) :
    Calls Try.prog 79 #[.agg (vw xs ss off), .int .i64 4096] w fun e w' => e = .returned (.bool (inB xs ss off)) ∧ Ext w w' := by
  have hcnt := hide (fun W => count_any W xs h4 hr)
  have x0 : Ext w ((w.alloc (.cells (vw xs ss off) 64)).alloc (.cells (shp xs) 62)) := ((Ext.refl w).alloc _ _).alloc _ _
  have y0 : Ext (w.alloc (.cells (vw xs ss off) 64)) ((w.alloc (.cells (vw xs ss off) 64)).alloc (.cells (shp xs) 62)) := (Ext.refl _).alloc _ _
  have n1 := fun j => new_cell w (vw xs ss off) 64 w.heap.size rfl j
  have f0 := y0.box (n1 0)
  have f9 := y0.box (n1 9)
  have fl : ∀ j, j < 4 → ((w.alloc (.cells (vw xs ss off) 64)).alloc (.cells (shp xs) 62)).cell? ⟨w.heap.size, 1 + j, none⟩ = some (.int .i64 (xs.getD j 0)) := fun j hj => by
    obtain rfl | rfl | rfl | rfl : j = 0 ∨ j = 1 ∨ j = 2 ∨ j = 3 := by omega
    exact y0.box (n1 1)
    exact y0.box (n1 2)
    exact y0.box (n1 3)
    exact y0.box (n1 4)
  have fs : ∀ j, j < 4 → ((w.alloc (.cells (vw xs ss off) 64)).alloc (.cells (shp xs) 62)).cell? ⟨w.heap.size, 5 + j, none⟩ = some (.int .i64 (ss.getD j 0)) := fun j hj => by
    obtain rfl | rfl | rfl | rfl : j = 0 ∨ j = 1 ∨ j = 2 ∨ j = 3 := by omega
    exact y0.box (n1 5)
    exact y0.box (n1 6)
    exact y0.box (n1 7)
    exact y0.box (n1 8)
  have X0 := hide x0
  have FL := hide fl
  have FxS' := hide fs
  clear x0 y0 n1 fl fs
  unfold shp vw at *
  generalize xs.getD 0 0 = a0 at *
  generalize xs.getD 1 0 = a1 at *
  generalize xs.getD 2 0 = a2 at *
  generalize xs.getD 3 0 = a3 at *
  generalize ss.getD 0 0 = b0 at *
  generalize ss.getD 1 0 = b1 at *
  generalize ss.getD 2 0 = b2 at *
  generalize ss.getD 3 0 = b3 at *
  have h4' : (xs.length : Int) ≤ 4 := by omega
  have Hl := hide hl
  have HR := hide hr
  have HS := hide hs
  clear hl hr hs
  go_enter Try.func79, Try.ntmps79
  go_wp2_with fail
  refine (hcnt.out _).mono ?_
  rintro e w1 ⟨rfl, rfl⟩
  by_cases hp : prod xs = 0
  · have hyes : Hid (inB xs ss off = true) := decide_eq_true (Or.inl hp)
    rw [hp]
    go_wp2
    go_ret
    exact ⟨ret_bool hyes.out.symm, X0.out⟩
  · have hpn : (prod xs == 0) = false := by simp [hp]
    have hin : Hid (inB xs ss off = decide (0 ≤ least xs ss off ∧ most xs ss off < 4096)) := decide_eq_decide.2 ⟨fun q => q.resolve_left hp, Or.inr⟩
    generalize prod xs = P at hpn ⊢
    go_wp2_with fail
    generalize hW1 : (w.alloc (.cells #[.int .i64 xs.length, .int .i64 a0, .int .i64 a1, .int .i64 a2, .int .i64 a3, .int .i64 b0, .int .i64 b1, .int .i64 b2, .int .i64 b3, .int .i64 off] 64)).alloc (.cells #[.int .i64 xs.length, .int .i64 a0, .int .i64 a1, .int .i64 a2, .int .i64 a3] 62) = W1 at X0 FL FxS' f0 f9 ⊢
    clear hW1
    have g0 : W1.cell? ⟨w.heap.size, 0, none⟩ = some (.int .i64 xs.length) := f0
    have g9 : W1.cell? ⟨w.heap.size, 9, none⟩ = some (.int .i64 off) := f9
    clear f0 f9
    go_region
    all_goals go_wp2
    go_loopw [5, 6, 24] (fun a b i wr => ∃ k : Nat, i = .int .i64 k ∧ a = .int .i64 (least (xs.take k) (ss.take k) off) ∧ b = .int .i64 (most (xs.take k) (ss.take k) off) ∧ k ≤ xs.length ∧ Ext W1 wr) (fun a b i _ => xs.length - (intOf i).toNat)
    case atStart => exact ⟨0, rfl, by simp [least], by simp [most], by omega, (Ext.refl W1).drew⟩
    case round =>
      obtain ⟨k, rfl, rfl, rfl, hk, hx⟩ := hrel
      have HX := hide hx
      clear hx
      have hb := ends_bd xs ss off Hl.out HR.out HS.out ho k hk
      have hk4 : (k : Int) * 16777216 ≤ 67108864 := by omega
      by_cases hlt : k < xs.length
      · have q0 := HX.out.box (FL.out k (by omega))
        have q1 := HX.out.box (FxS'.out k (by omega))
        have hk0 : (0 : Int) ≤ (k : Int) := Int.natCast_nonneg _
        have hk1 : (k : Int) < (xs.length : Int) := by omega
        have hk44 : (k : Int) < 4 := by omega
        have hlt1 := least_take xs ss off k hlt Hl.out
        have hmt1 := most_take xs ss off k hlt Hl.out
        have hfar := far_bd (HR.out k hlt) (HS.out k (by have := Hl.out; omega))
        have hnr := HR.out k hlt
        generalize xs.getD k 0 = n at q0 hlt1 hmt1 hfar hnr
        generalize ss.getD k 0 = s at q1 hlt1 hmt1 hfar
        generalize hA : least (xs.take (k + 1)) (ss.take (k + 1)) off = A at hlt1
        generalize hB : most (xs.take (k + 1)) (ss.take (k + 1)) off = B at hmt1
        generalize least (xs.take k) (ss.take k) off = a at hlt1 hb ⊢
        generalize most (xs.take k) (ss.take k) off = b at hmt1 hb ⊢
        have HA := hide hA
        have HB := hide hB
        clear hA hB
        subst hlt1
        subst hmt1
        go_wp2
        refine ⟨⟨k + 1, by go_num, ?_, ?_, by omega, HX.out⟩, by simp [intOf]; omega⟩
        · rw [HA.out]
          have e : (if 0 < s * (n - 1) then 0 else s * (n - 1)) = min (s * (n - 1)) 0 := by split <;> omega
          rw [e]
        · rw [HB.out]
          have e : (if s * (n - 1) < 0 then 0 else s * (n - 1)) = max (s * (n - 1)) 0 := by split <;> omega
          rw [e]
      · have hkk : k = xs.length := by omega
        subst hkk
        have e1 : xs.take xs.length = xs := List.take_length
        have e2 : ss.take xs.length = ss := List.take_of_length_le (by have := Hl.out; omega)
        rw [e1, e2]
        clear hb e1 e2
        generalize least xs ss off = a at hin ⊢
        generalize most xs ss off = b at hin ⊢
        by_cases ha : 0 ≤ a
        · by_cases hb : b < 4096
          · have hv : Hid (inB xs ss off = true) := by show inB xs ss off = true; rw [hin.out]; exact decide_eq_true ⟨ha, hb⟩
            go_wp2
            go_ret
            exact ⟨by rw [hv.out]; first | rfl | simp [ha, hb], X0.out.trans HX.out⟩
          · have hv : Hid (inB xs ss off = false) := by show inB xs ss off = false; rw [hin.out]; exact decide_eq_false (fun q => hb q.2)
            go_wp2
            go_ret
            exact ⟨by rw [hv.out]; first | rfl | simp [ha, hb], X0.out.trans HX.out⟩
        · have hv : Hid (inB xs ss off = false) := by show inB xs ss off = false; rw [hin.out]; exact decide_eq_false (fun q => ha q.1)
          go_wp2
          go_ret
          exact ⟨by rw [hv.out]; first | rfl | simp [ha], X0.out.trans HX.out⟩
end Go.Proofs.Ytiekkninnjffpaa
namespace Go.Proofs.Ytiekkninnjffpaa
open Go.ChangeShapes Go.RowKit
set_option linter.unusedSimpArgs false
set_option linter.unusedVariables false

def FixVOk (w : World) (xs ss : List Int) (off : Int) (e : Ending) (w' : World) : Prop :=
  ∃ A : Array Value, e = .returned (.tuple #[.agg A, .bool (dcValidV xs ss off)]) ∧ (ValidV xs ss off → A = vw xs ss off) ∧ (∃ a0 a1 a2 a3 a4 a5 a6 a7 a8 a9 : Int, A = #[.int .i64 a0, .int .i64 a1, .int .i64 a2, .int .i64 a3, .int .i64 a4, .int .i64 a5, .int .i64 a6, .int .i64 a7, .int .i64 a8, .int .i64 a9]) ∧ Ext w w'

theorem bad_fv {w w' : World} {xs ss : List Int} {off : Int} (h : (dcValidV xs ss off) = false) (x : Ext w w') : FixVOk w xs ss off (.returned (.tuple #[.agg #[.int .i64 0, .int .i64 0, .int .i64 0, .int .i64 0, .int .i64 0, .int .i64 0, .int .i64 0, .int .i64 0, .int .i64 0, .int .i64 0], .bool false])) w' :=
  ⟨_, by rw [h], fun q => absurd q (of_decide_eq_false h), ⟨0, 0, 0, 0, 0, 0, 0, 0, 0, 0, rfl⟩, x⟩

theorem zs {W : World} {R : Nat} (h : ∀ j, j < 10 → W.cell? ⟨R, j, none⟩ = some (.int .i64 0)) (i : Nat) : ∀ j, j < 10 → (W.setCell ⟨R, i, none⟩ (.int .i64 0)).cell? ⟨R, j, none⟩ = some (.int .i64 0) := fun j hj => by
  by_cases e : i = j
  · subst e; exact World.cell?_setCell_same _ _ _ (h i hj)
  · rw [World.cell?_setCell_other _ _ _ _ (by intro h; simp only [Addr.mk.injEq] at h; omega)]; exact h j hj

/-- The world of the loop. -/
structure FVS (w wr : World) (B : Nat) (vS vT : Value) (xs ss : List Int) (off : Int) (k : Nat) : Prop where
  v1 : wr.cell? ⟨w.heap.size, 1, none⟩ = some vT
  r : ∀ j, j < 10 → wr.cell? ⟨w.heap.size + 1, j, none⟩ = some (.int .i64 0)
  f0 : wr.cell? ⟨B, 0, none⟩ = some (.int .i64 xs.length)
  fl : ∀ j, j < 4 → wr.cell? ⟨B, 1 + j, none⟩ = some (.int .i64 (xs.getD j 0))
  fs : ∀ j, j < 4 → wr.cell? ⟨B, 5 + j, none⟩ = some (.int .i64 (if j < k then ss.getD j 0 else 0))
  f9 : wr.cell? ⟨B, 9, none⟩ = some (.int .i64 off)
  ex : Ext w wr

theorem FVS.step {w wr : World} {B : Nat} {vS vT : Value} {xs ss : List Int} {off : Int} {k : Nat} (h : FVS w wr B vS vT xs ss off k) (hk : k < 4) (hB : w.heap.size + 1 < B) :
    FVS w (wr.setCell ⟨B, 5 + k, none⟩ (.int .i64 (ss.getD k 0))) B vS vT xs ss off (k + 1) := by
  have m : Mut B wr (wr.setCell ⟨B, 5 + k, none⟩ (.int .i64 (ss.getD k 0))) := (Mut.refl _ _).setCell _ _
  refine ⟨m.box (by omega) h.v1, fun j hj => m.box (by omega) (h.r j hj), ?_, fun j hj => ?_, fun j hj => ?_, ?_, h.ex.setCell (by show w.heap.size ≤ B; omega) _⟩
  · rw [World.cell?_setCell_other _ _ _ _ (by intro h; simp only [Addr.mk.injEq] at h; omega)]; exact h.f0
  · rw [World.cell?_setCell_other _ _ _ _ (by intro h; simp only [Addr.mk.injEq] at h; omega)]; exact h.fl j hj
  · by_cases e : j = k
    · subst e
      rw [if_pos (by omega)]
      exact World.cell?_setCell_same _ _ _ (h.fs j hj)
    · rw [World.cell?_setCell_other _ _ _ _ (by intro h; simp only [Addr.mk.injEq] at h; omega), h.fs j hj]
      by_cases h1 : j < k
      · rw [if_pos h1, if_pos (by omega)]
      · rw [if_neg h1, if_neg (by omega)]
  · rw [World.cell?_setCell_other _ _ _ _ (by intro h; simp only [Addr.mk.injEq] at h; omega)]; exact h.f9

set_option maxRecDepth 100000 in
set_option maxHeartbeats 1000000 in
/-- A view that is refused ahead of the loop over its strides. -/
theorem fixView_bad {w : World} {vS vT : Value} {xs ss : List Int} (hS : Ints w vS xs) (hT : Ints w vT ss) (off : Int) (lx : xs.length ≤ 1048576) (ls : ss.length ≤ 1048576) (hbad : ¬ (Good xs ∧ ss.length = xs.length ∧ (0 ≤ off ∧ off ≤ 4096))) :
    Calls Try.prog 53 #[.agg #[vS, vT, .int .i64 off]] w fun e w' => FixVOk w xs ss off e w' := by
  obtain ⟨sa, cap, rfl, rS⟩ := hS
  obtain ⟨ta, dap, rfl, rT⟩ := hT
  have x0 : Ext w ((w.alloc (.cells #[.slice sa xs.length cap, .slice ta ss.length dap, .int .i64 off] 27)).alloc (.cells #[.int .i64 0, .int .i64 0, .int .i64 0, .int .i64 0, .int .i64 0, .int .i64 0, .int .i64 0, .int .i64 0, .int .i64 0, .int .i64 0] 64)) := ((Ext.refl w).alloc _ _).alloc _ _
  have y0 : Ext (w.alloc (.cells #[.slice sa xs.length cap, .slice ta ss.length dap, .int .i64 off] 27)) ((w.alloc (.cells #[.slice sa xs.length cap, .slice ta ss.length dap, .int .i64 off] 27)).alloc (.cells #[.int .i64 0, .int .i64 0, .int .i64 0, .int .i64 0, .int .i64 0, .int .i64 0, .int .i64 0, .int .i64 0, .int .i64 0, .int .i64 0] 64)) := (Ext.refl _).alloc _ _
  have HS : Hid (Ints ((w.alloc (.cells #[.slice sa xs.length cap, .slice ta ss.length dap, .int .i64 off] 27)).alloc (.cells #[.int .i64 0, .int .i64 0, .int .i64 0, .int .i64 0, .int .i64 0, .int .i64 0, .int .i64 0, .int .i64 0, .int .i64 0, .int .i64 0] 64)) (.slice sa xs.length cap) xs) := Ints.ext ⟨sa, cap, rfl, rS⟩ x0
  have HT : Hid (Ints ((w.alloc (.cells #[.slice sa xs.length cap, .slice ta ss.length dap, .int .i64 off] 27)).alloc (.cells #[.int .i64 0, .int .i64 0, .int .i64 0, .int .i64 0, .int .i64 0, .int .i64 0, .int .i64 0, .int .i64 0, .int .i64 0, .int .i64 0] 64)) (.slice ta ss.length dap) ss) := Ints.ext ⟨ta, dap, rfl, rT⟩ x0
  have n1 := fun j => new_cell w #[.slice sa xs.length cap, .slice ta ss.length dap, .int .i64 off] 27 w.heap.size rfl j
  have n2 := fun j => new_cell (w.alloc (.cells #[.slice sa xs.length cap, .slice ta ss.length dap, .int .i64 off] 27)) #[.int .i64 0, .int .i64 0, .int .i64 0, .int .i64 0, .int .i64 0, .int .i64 0, .int .i64 0, .int .i64 0, .int .i64 0, .int .i64 0] 64 (w.heap.size + 1) (by simp) j
  have k0 := y0.box (n1 0)
  have k1 := y0.box (n1 1)
  have k2 := y0.box (n1 2)
  have z0 : ((w.alloc (.cells #[.slice sa xs.length cap, .slice ta ss.length dap, .int .i64 off] 27)).alloc (.cells #[.int .i64 0, .int .i64 0, .int .i64 0, .int .i64 0, .int .i64 0, .int .i64 0, .int .i64 0, .int .i64 0, .int .i64 0, .int .i64 0] 64)).cell? ⟨w.heap.size + 1, 0, none⟩ = some (.int .i64 0) := n2 0
  have z1 : ((w.alloc (.cells #[.slice sa xs.length cap, .slice ta ss.length dap, .int .i64 off] 27)).alloc (.cells #[.int .i64 0, .int .i64 0, .int .i64 0, .int .i64 0, .int .i64 0, .int .i64 0, .int .i64 0, .int .i64 0, .int .i64 0, .int .i64 0] 64)).cell? ⟨w.heap.size + 1, 1, none⟩ = some (.int .i64 0) := n2 1
  have z2 : ((w.alloc (.cells #[.slice sa xs.length cap, .slice ta ss.length dap, .int .i64 off] 27)).alloc (.cells #[.int .i64 0, .int .i64 0, .int .i64 0, .int .i64 0, .int .i64 0, .int .i64 0, .int .i64 0, .int .i64 0, .int .i64 0, .int .i64 0] 64)).cell? ⟨w.heap.size + 1, 2, none⟩ = some (.int .i64 0) := n2 2
  have z3 : ((w.alloc (.cells #[.slice sa xs.length cap, .slice ta ss.length dap, .int .i64 off] 27)).alloc (.cells #[.int .i64 0, .int .i64 0, .int .i64 0, .int .i64 0, .int .i64 0, .int .i64 0, .int .i64 0, .int .i64 0, .int .i64 0, .int .i64 0] 64)).cell? ⟨w.heap.size + 1, 3, none⟩ = some (.int .i64 0) := n2 3
  have z4 : ((w.alloc (.cells #[.slice sa xs.length cap, .slice ta ss.length dap, .int .i64 off] 27)).alloc (.cells #[.int .i64 0, .int .i64 0, .int .i64 0, .int .i64 0, .int .i64 0, .int .i64 0, .int .i64 0, .int .i64 0, .int .i64 0, .int .i64 0] 64)).cell? ⟨w.heap.size + 1, 4, none⟩ = some (.int .i64 0) := n2 4
  have z5 : ((w.alloc (.cells #[.slice sa xs.length cap, .slice ta ss.length dap, .int .i64 off] 27)).alloc (.cells #[.int .i64 0, .int .i64 0, .int .i64 0, .int .i64 0, .int .i64 0, .int .i64 0, .int .i64 0, .int .i64 0, .int .i64 0, .int .i64 0] 64)).cell? ⟨w.heap.size + 1, 5, none⟩ = some (.int .i64 0) := n2 5
  have z6 : ((w.alloc (.cells #[.slice sa xs.length cap, .slice ta ss.length dap, .int .i64 off] 27)).alloc (.cells #[.int .i64 0, .int .i64 0, .int .i64 0, .int .i64 0, .int .i64 0, .int .i64 0, .int .i64 0, .int .i64 0, .int .i64 0, .int .i64 0] 64)).cell? ⟨w.heap.size + 1, 6, none⟩ = some (.int .i64 0) := n2 6
  have z7 : ((w.alloc (.cells #[.slice sa xs.length cap, .slice ta ss.length dap, .int .i64 off] 27)).alloc (.cells #[.int .i64 0, .int .i64 0, .int .i64 0, .int .i64 0, .int .i64 0, .int .i64 0, .int .i64 0, .int .i64 0, .int .i64 0, .int .i64 0] 64)).cell? ⟨w.heap.size + 1, 7, none⟩ = some (.int .i64 0) := n2 7
  have z8 : ((w.alloc (.cells #[.slice sa xs.length cap, .slice ta ss.length dap, .int .i64 off] 27)).alloc (.cells #[.int .i64 0, .int .i64 0, .int .i64 0, .int .i64 0, .int .i64 0, .int .i64 0, .int .i64 0, .int .i64 0, .int .i64 0, .int .i64 0] 64)).cell? ⟨w.heap.size + 1, 8, none⟩ = some (.int .i64 0) := n2 8
  have z9 : ((w.alloc (.cells #[.slice sa xs.length cap, .slice ta ss.length dap, .int .i64 off] 27)).alloc (.cells #[.int .i64 0, .int .i64 0, .int .i64 0, .int .i64 0, .int .i64 0, .int .i64 0, .int .i64 0, .int .i64 0, .int .i64 0, .int .i64 0] 64)).cell? ⟨w.heap.size + 1, 9, none⟩ = some (.int .i64 0) := n2 9
  have HrT := hide rT
  have X0 := hide x0
  clear n1 n2 x0 y0 rS rT
  go_enter Try.func53, Try.ntmps53
  go_wp2_with fail
  refine (fixShape_any HS.out (by omega)).mono ?_
  rintro e w1 ⟨n, a0, a1, a2, a3, rfl, hX, x1⟩
  have y1 : Ext w1 (w1.alloc (.cells #[.int .i64 n, .int .i64 a0, .int .i64 a1, .int .i64 a2, .int .i64 a3] 62)) := (Ext.refl w1).alloc _ _
  have n3 := fun j => new_cell w1 #[.int .i64 n, .int .i64 a0, .int .i64 a1, .int .i64 a2, .int .i64 a3] 62 w1.heap.size rfl j
  have s0 : (w1.alloc (.cells #[.int .i64 n, .int .i64 a0, .int .i64 a1, .int .i64 a2, .int .i64 a3] 62)).cell? ⟨w1.heap.size, 0, none⟩ = some (.int .i64 n) := n3 0
  have s1 : (w1.alloc (.cells #[.int .i64 n, .int .i64 a0, .int .i64 a1, .int .i64 a2, .int .i64 a3] 62)).cell? ⟨w1.heap.size, 1, none⟩ = some (.int .i64 a0) := n3 1
  have s2 : (w1.alloc (.cells #[.int .i64 n, .int .i64 a0, .int .i64 a1, .int .i64 a2, .int .i64 a3] 62)).cell? ⟨w1.heap.size, 2, none⟩ = some (.int .i64 a1) := n3 2
  have s3 : (w1.alloc (.cells #[.int .i64 n, .int .i64 a0, .int .i64 a1, .int .i64 a2, .int .i64 a3] 62)).cell? ⟨w1.heap.size, 3, none⟩ = some (.int .i64 a2) := n3 3
  have s4 : (w1.alloc (.cells #[.int .i64 n, .int .i64 a0, .int .i64 a1, .int .i64 a2, .int .i64 a3] 62)).cell? ⟨w1.heap.size, 4, none⟩ = some (.int .i64 a3) := n3 4
  have v0 := x1.box k0
  have vv0 := y1.box v0
  have v1 := x1.box k1
  have vv1 := y1.box v1
  have v2 := x1.box k2
  have vv2 := y1.box v2
  have r0 := x1.box z0
  have r1 := x1.box z1
  have r2 := x1.box z2
  have r3 := x1.box z3
  have r4 := x1.box z4
  have r5 := x1.box z5
  have r6 := x1.box z6
  have r7 := x1.box z7
  have r8 := x1.box z8
  have r9 := x1.box z9
  have X1 := hide ((X0.out.trans x1).trans y1)
  have hB1 : w.heap.size + 1 < w1.heap.size := cell_lt (x1.box z0)
  have HX := hide hX
  have Hr : Hid (∀ j, j < 10 → w1.cell? ⟨w.heap.size + 1, j, none⟩ = some (.int .i64 0)) := fun j hj => by
    obtain rfl | rfl | rfl | rfl | rfl | rfl | rfl | rfl | rfl | rfl : j = 0 ∨ j = 1 ∨ j = 2 ∨ j = 3 ∨ j = 4 ∨ j = 5 ∨ j = 6 ∨ j = 7 ∨ j = 8 ∨ j = 9 := by omega
    all_goals assumption
  have XW1 := hide (X0.out.trans x1)
  have rf := fun o => (X0.out.trans x1).unfrozen (b := w.heap.size + 1) (by omega) o
  clear hX n3 k0 k1 k2 y1 x1 HS HT z0 z1 z2 z3 z4 z5 z6 z7 z8 z9
  cases hg : goodB xs
  · have Hno : Hid ((dcValidV xs ss off) = false) := decide_eq_false (fun q => absurd q.1 (of_decide_eq_false hg))
    go_wp2
    have Zz := (zs (zs (zs (zs (zs (zs (zs (zs (zs (zs Hr.out 0) 1) 2) 3) 4) 5) 6) 7) 8) 9)
    have e0 := ((Ext.refl _).alloc #[.int .i64 n, .int .i64 a0, .int .i64 a1, .int .i64 a2, .int .i64 a3] 62).box (Zz 0 (by omega))
    have e1 := ((Ext.refl _).alloc #[.int .i64 n, .int .i64 a0, .int .i64 a1, .int .i64 a2, .int .i64 a3] 62).box (Zz 1 (by omega))
    have e2 := ((Ext.refl _).alloc #[.int .i64 n, .int .i64 a0, .int .i64 a1, .int .i64 a2, .int .i64 a3] 62).box (Zz 2 (by omega))
    have e3 := ((Ext.refl _).alloc #[.int .i64 n, .int .i64 a0, .int .i64 a1, .int .i64 a2, .int .i64 a3] 62).box (Zz 3 (by omega))
    have e4 := ((Ext.refl _).alloc #[.int .i64 n, .int .i64 a0, .int .i64 a1, .int .i64 a2, .int .i64 a3] 62).box (Zz 4 (by omega))
    have e5 := ((Ext.refl _).alloc #[.int .i64 n, .int .i64 a0, .int .i64 a1, .int .i64 a2, .int .i64 a3] 62).box (Zz 5 (by omega))
    have e6 := ((Ext.refl _).alloc #[.int .i64 n, .int .i64 a0, .int .i64 a1, .int .i64 a2, .int .i64 a3] 62).box (Zz 6 (by omega))
    have e7 := ((Ext.refl _).alloc #[.int .i64 n, .int .i64 a0, .int .i64 a1, .int .i64 a2, .int .i64 a3] 62).box (Zz 7 (by omega))
    have e8 := ((Ext.refl _).alloc #[.int .i64 n, .int .i64 a0, .int .i64 a1, .int .i64 a2, .int .i64 a3] 62).box (Zz 8 (by omega))
    have e9 := ((Ext.refl _).alloc #[.int .i64 n, .int .i64 a0, .int .i64 a1, .int .i64 a2, .int .i64 a3] 62).box (Zz 9 (by omega))
    exact bodyPost_ret (v := .tuple #[.agg #[.int .i64 0, .int .i64 0, .int .i64 0, .int .i64 0, .int .i64 0, .int .i64 0, .int .i64 0, .int .i64 0, .int .i64 0, .int .i64 0], .bool false]) (by simp [results, Try.results53, go_sem, e0, e1, e2, e3, e4, e5, e6, e7, e8, e9]) rfl (bad_fv Hno.out (by repeat (first | with_reducible exact XW1.out | with_reducible apply Ext.alloc | with_reducible refine Ext.setCell ?_ (by show w.heap.size ≤ w.heap.size + 1; omega) _)))
  have hgood : Good xs := of_decide_eq_true hg
  obtain ⟨en, e0, e1, e2, e3⟩ := HX.out hgood
  have hx4 := hgood.1
  by_cases hl : ss.length = xs.length
  · by_cases ho : 0 ≤ off ∧ off ≤ 4096
    · exact absurd ⟨hgood, hl, ho⟩ hbad
    · have Hno : Hid ((dcValidV xs ss off) = false) := decide_eq_false (fun q => ho q.2.2.1)
      have hln : (ss.length : Int) = n := by omega
      have hor : off < 0 ∨ (¬ off < 0 ∧ 4096 < off) := by omega
      clear en e0 e1 e2 e3 HX hgood hl ho
      rcases hor with o1 | ⟨o1, o2⟩
      all_goals
        go_wp2
        have Zz := (zs (zs (zs (zs (zs (zs (zs (zs (zs (zs Hr.out 0) 1) 2) 3) 4) 5) 6) 7) 8) 9)
        have e0 := ((Ext.refl _).alloc #[.int .i64 n, .int .i64 a0, .int .i64 a1, .int .i64 a2, .int .i64 a3] 62).box (Zz 0 (by omega))
        have e1 := ((Ext.refl _).alloc #[.int .i64 n, .int .i64 a0, .int .i64 a1, .int .i64 a2, .int .i64 a3] 62).box (Zz 1 (by omega))
        have e2 := ((Ext.refl _).alloc #[.int .i64 n, .int .i64 a0, .int .i64 a1, .int .i64 a2, .int .i64 a3] 62).box (Zz 2 (by omega))
        have e3 := ((Ext.refl _).alloc #[.int .i64 n, .int .i64 a0, .int .i64 a1, .int .i64 a2, .int .i64 a3] 62).box (Zz 3 (by omega))
        have e4 := ((Ext.refl _).alloc #[.int .i64 n, .int .i64 a0, .int .i64 a1, .int .i64 a2, .int .i64 a3] 62).box (Zz 4 (by omega))
        have e5 := ((Ext.refl _).alloc #[.int .i64 n, .int .i64 a0, .int .i64 a1, .int .i64 a2, .int .i64 a3] 62).box (Zz 5 (by omega))
        have e6 := ((Ext.refl _).alloc #[.int .i64 n, .int .i64 a0, .int .i64 a1, .int .i64 a2, .int .i64 a3] 62).box (Zz 6 (by omega))
        have e7 := ((Ext.refl _).alloc #[.int .i64 n, .int .i64 a0, .int .i64 a1, .int .i64 a2, .int .i64 a3] 62).box (Zz 7 (by omega))
        have e8 := ((Ext.refl _).alloc #[.int .i64 n, .int .i64 a0, .int .i64 a1, .int .i64 a2, .int .i64 a3] 62).box (Zz 8 (by omega))
        have e9 := ((Ext.refl _).alloc #[.int .i64 n, .int .i64 a0, .int .i64 a1, .int .i64 a2, .int .i64 a3] 62).box (Zz 9 (by omega))
        exact bodyPost_ret (v := .tuple #[.agg #[.int .i64 0, .int .i64 0, .int .i64 0, .int .i64 0, .int .i64 0, .int .i64 0, .int .i64 0, .int .i64 0, .int .i64 0, .int .i64 0], .bool false]) (by simp [results, Try.results53, go_sem, e0, e1, e2, e3, e4, e5, e6, e7, e8, e9]) rfl (bad_fv Hno.out (by repeat (first | with_reducible exact XW1.out | with_reducible apply Ext.alloc | with_reducible refine Ext.setCell ?_ (by show w.heap.size ≤ w.heap.size + 1; omega) _)))
  · have Hno : Hid ((dcValidV xs ss off) = false) := decide_eq_false (fun q => hl q.2.1)
    have hln : ¬ (ss.length : Int) = n := by omega
    clear en e0 e1 e2 e3 HX hgood hl
    go_wp2
    have Zz := (zs (zs (zs (zs (zs (zs (zs (zs (zs (zs Hr.out 0) 1) 2) 3) 4) 5) 6) 7) 8) 9)
    have e0 := ((Ext.refl _).alloc #[.int .i64 n, .int .i64 a0, .int .i64 a1, .int .i64 a2, .int .i64 a3] 62).box (Zz 0 (by omega))
    have e1 := ((Ext.refl _).alloc #[.int .i64 n, .int .i64 a0, .int .i64 a1, .int .i64 a2, .int .i64 a3] 62).box (Zz 1 (by omega))
    have e2 := ((Ext.refl _).alloc #[.int .i64 n, .int .i64 a0, .int .i64 a1, .int .i64 a2, .int .i64 a3] 62).box (Zz 2 (by omega))
    have e3 := ((Ext.refl _).alloc #[.int .i64 n, .int .i64 a0, .int .i64 a1, .int .i64 a2, .int .i64 a3] 62).box (Zz 3 (by omega))
    have e4 := ((Ext.refl _).alloc #[.int .i64 n, .int .i64 a0, .int .i64 a1, .int .i64 a2, .int .i64 a3] 62).box (Zz 4 (by omega))
    have e5 := ((Ext.refl _).alloc #[.int .i64 n, .int .i64 a0, .int .i64 a1, .int .i64 a2, .int .i64 a3] 62).box (Zz 5 (by omega))
    have e6 := ((Ext.refl _).alloc #[.int .i64 n, .int .i64 a0, .int .i64 a1, .int .i64 a2, .int .i64 a3] 62).box (Zz 6 (by omega))
    have e7 := ((Ext.refl _).alloc #[.int .i64 n, .int .i64 a0, .int .i64 a1, .int .i64 a2, .int .i64 a3] 62).box (Zz 7 (by omega))
    have e8 := ((Ext.refl _).alloc #[.int .i64 n, .int .i64 a0, .int .i64 a1, .int .i64 a2, .int .i64 a3] 62).box (Zz 8 (by omega))
    have e9 := ((Ext.refl _).alloc #[.int .i64 n, .int .i64 a0, .int .i64 a1, .int .i64 a2, .int .i64 a3] 62).box (Zz 9 (by omega))
    exact bodyPost_ret (v := .tuple #[.agg #[.int .i64 0, .int .i64 0, .int .i64 0, .int .i64 0, .int .i64 0, .int .i64 0, .int .i64 0, .int .i64 0, .int .i64 0, .int .i64 0], .bool false]) (by simp [results, Try.results53, go_sem, e0, e1, e2, e3, e4, e5, e6, e7, e8, e9]) rfl (bad_fv Hno.out (by repeat (first | with_reducible exact XW1.out | with_reducible apply Ext.alloc | with_reducible refine Ext.setCell ?_ (by show w.heap.size ≤ w.heap.size + 1; omega) _)))
end Go.Proofs.Ytiekkninnjffpaa
namespace Go.Proofs.Ytiekkninnjffpaa
open Go.ChangeShapes Go.RowKit
set_option linter.unusedSimpArgs false
set_option linter.unusedVariables false

theorem far1 {W : World} {R B i j : Nat} {v u : Value} (hne : R ≠ B) (h : W.cell? ⟨B, j, none⟩ = some u) : (W.setCell ⟨R, i, none⟩ v).cell? ⟨B, j, none⟩ = some u := by
  rw [World.cell?_setCell_other _ _ _ _ (by intro h; simp only [Addr.mk.injEq] at h; omega)]; exact h

theorem far10 {W : World} {R B j : Nat} {v0 v1 v2 v3 v4 v5 v6 v7 v8 v9 u : Value} (hne : R ≠ B) (h : W.cell? ⟨B, j, none⟩ = some u) :
    ((((((((((W.setCell ⟨R, 0, none⟩ v0).setCell ⟨R, 1, none⟩ v1).setCell ⟨R, 2, none⟩ v2).setCell ⟨R, 3, none⟩ v3).setCell ⟨R, 4, none⟩ v4).setCell ⟨R, 5, none⟩ v5).setCell ⟨R, 6, none⟩ v6).setCell ⟨R, 7, none⟩ v7).setCell ⟨R, 8, none⟩ v8).setCell ⟨R, 9, none⟩ v9).cell? ⟨B, j, none⟩ = some u :=
  far1 hne (far1 hne (far1 hne (far1 hne (far1 hne (far1 hne (far1 hne (far1 hne (far1 hne (far1 hne h)))))))))

theorem zt {W : World} {R : Nat} {f : Nat → Value} (h : ∀ j, j < 10 → W.cell? ⟨R, j, none⟩ = some (f j)) (i : Nat) (v : Value) : ∀ j, j < 10 → (W.setCell ⟨R, i, none⟩ v).cell? ⟨R, j, none⟩ = some (if i = j then v else f j) := fun j hj => by
  by_cases e : i = j
  · subst e; rw [if_pos rfl]; exact World.cell?_setCell_same _ _ _ (h i hj)
  · rw [if_neg e, World.cell?_setCell_other _ _ _ _ (by intro h; simp only [Addr.mk.injEq] at h; omega)]; exact h j hj

set_option maxRecDepth 100000 in
set_option maxHeartbeats 16000000 in
theorem fixView_good {w : World} {vS vT : Value} {xs ss : List Int} (hS : Ints w vS xs) (hT : Ints w vT ss) (off : Int) (lx : xs.length ≤ 1048576) (ls : ss.length ≤ 1048576) (hgood : Good xs) (hl : ss.length = xs.length) (ho : 0 ≤ off ∧ off ≤ 4096) :
    Calls Try.prog 53 #[.agg #[vS, vT, .int .i64 off]] w fun e w' => FixVOk w xs ss off e w' := by
  have Hl := hide hl
  have Hgood := hide hgood
  clear hl hgood
  obtain ⟨sa, cap, rfl, rS⟩ := hS
  obtain ⟨ta, dap, rfl, rT⟩ := hT
  have x0 : Ext w ((w.alloc (.cells #[.slice sa xs.length cap, .slice ta ss.length dap, .int .i64 off] 27)).alloc (.cells #[.int .i64 0, .int .i64 0, .int .i64 0, .int .i64 0, .int .i64 0, .int .i64 0, .int .i64 0, .int .i64 0, .int .i64 0, .int .i64 0] 64)) := ((Ext.refl w).alloc _ _).alloc _ _
  have y0 : Ext (w.alloc (.cells #[.slice sa xs.length cap, .slice ta ss.length dap, .int .i64 off] 27)) ((w.alloc (.cells #[.slice sa xs.length cap, .slice ta ss.length dap, .int .i64 off] 27)).alloc (.cells #[.int .i64 0, .int .i64 0, .int .i64 0, .int .i64 0, .int .i64 0, .int .i64 0, .int .i64 0, .int .i64 0, .int .i64 0, .int .i64 0] 64)) := (Ext.refl _).alloc _ _
  have HS : Hid (Ints ((w.alloc (.cells #[.slice sa xs.length cap, .slice ta ss.length dap, .int .i64 off] 27)).alloc (.cells #[.int .i64 0, .int .i64 0, .int .i64 0, .int .i64 0, .int .i64 0, .int .i64 0, .int .i64 0, .int .i64 0, .int .i64 0, .int .i64 0] 64)) (.slice sa xs.length cap) xs) := Ints.ext ⟨sa, cap, rfl, rS⟩ x0
  have HT : Hid (Ints ((w.alloc (.cells #[.slice sa xs.length cap, .slice ta ss.length dap, .int .i64 off] 27)).alloc (.cells #[.int .i64 0, .int .i64 0, .int .i64 0, .int .i64 0, .int .i64 0, .int .i64 0, .int .i64 0, .int .i64 0, .int .i64 0, .int .i64 0] 64)) (.slice ta ss.length dap) ss) := Ints.ext ⟨ta, dap, rfl, rT⟩ x0
  have n1 := fun j => new_cell w #[.slice sa xs.length cap, .slice ta ss.length dap, .int .i64 off] 27 w.heap.size rfl j
  have n2 := fun j => new_cell (w.alloc (.cells #[.slice sa xs.length cap, .slice ta ss.length dap, .int .i64 off] 27)) #[.int .i64 0, .int .i64 0, .int .i64 0, .int .i64 0, .int .i64 0, .int .i64 0, .int .i64 0, .int .i64 0, .int .i64 0, .int .i64 0] 64 (w.heap.size + 1) (by simp) j
  have k0 := y0.box (n1 0)
  have k1 := y0.box (n1 1)
  have k2 := y0.box (n1 2)
  have z0 : ((w.alloc (.cells #[.slice sa xs.length cap, .slice ta ss.length dap, .int .i64 off] 27)).alloc (.cells #[.int .i64 0, .int .i64 0, .int .i64 0, .int .i64 0, .int .i64 0, .int .i64 0, .int .i64 0, .int .i64 0, .int .i64 0, .int .i64 0] 64)).cell? ⟨w.heap.size + 1, 0, none⟩ = some (.int .i64 0) := n2 0
  have z1 : ((w.alloc (.cells #[.slice sa xs.length cap, .slice ta ss.length dap, .int .i64 off] 27)).alloc (.cells #[.int .i64 0, .int .i64 0, .int .i64 0, .int .i64 0, .int .i64 0, .int .i64 0, .int .i64 0, .int .i64 0, .int .i64 0, .int .i64 0] 64)).cell? ⟨w.heap.size + 1, 1, none⟩ = some (.int .i64 0) := n2 1
  have z2 : ((w.alloc (.cells #[.slice sa xs.length cap, .slice ta ss.length dap, .int .i64 off] 27)).alloc (.cells #[.int .i64 0, .int .i64 0, .int .i64 0, .int .i64 0, .int .i64 0, .int .i64 0, .int .i64 0, .int .i64 0, .int .i64 0, .int .i64 0] 64)).cell? ⟨w.heap.size + 1, 2, none⟩ = some (.int .i64 0) := n2 2
  have z3 : ((w.alloc (.cells #[.slice sa xs.length cap, .slice ta ss.length dap, .int .i64 off] 27)).alloc (.cells #[.int .i64 0, .int .i64 0, .int .i64 0, .int .i64 0, .int .i64 0, .int .i64 0, .int .i64 0, .int .i64 0, .int .i64 0, .int .i64 0] 64)).cell? ⟨w.heap.size + 1, 3, none⟩ = some (.int .i64 0) := n2 3
  have z4 : ((w.alloc (.cells #[.slice sa xs.length cap, .slice ta ss.length dap, .int .i64 off] 27)).alloc (.cells #[.int .i64 0, .int .i64 0, .int .i64 0, .int .i64 0, .int .i64 0, .int .i64 0, .int .i64 0, .int .i64 0, .int .i64 0, .int .i64 0] 64)).cell? ⟨w.heap.size + 1, 4, none⟩ = some (.int .i64 0) := n2 4
  have z5 : ((w.alloc (.cells #[.slice sa xs.length cap, .slice ta ss.length dap, .int .i64 off] 27)).alloc (.cells #[.int .i64 0, .int .i64 0, .int .i64 0, .int .i64 0, .int .i64 0, .int .i64 0, .int .i64 0, .int .i64 0, .int .i64 0, .int .i64 0] 64)).cell? ⟨w.heap.size + 1, 5, none⟩ = some (.int .i64 0) := n2 5
  have z6 : ((w.alloc (.cells #[.slice sa xs.length cap, .slice ta ss.length dap, .int .i64 off] 27)).alloc (.cells #[.int .i64 0, .int .i64 0, .int .i64 0, .int .i64 0, .int .i64 0, .int .i64 0, .int .i64 0, .int .i64 0, .int .i64 0, .int .i64 0] 64)).cell? ⟨w.heap.size + 1, 6, none⟩ = some (.int .i64 0) := n2 6
  have z7 : ((w.alloc (.cells #[.slice sa xs.length cap, .slice ta ss.length dap, .int .i64 off] 27)).alloc (.cells #[.int .i64 0, .int .i64 0, .int .i64 0, .int .i64 0, .int .i64 0, .int .i64 0, .int .i64 0, .int .i64 0, .int .i64 0, .int .i64 0] 64)).cell? ⟨w.heap.size + 1, 7, none⟩ = some (.int .i64 0) := n2 7
  have z8 : ((w.alloc (.cells #[.slice sa xs.length cap, .slice ta ss.length dap, .int .i64 off] 27)).alloc (.cells #[.int .i64 0, .int .i64 0, .int .i64 0, .int .i64 0, .int .i64 0, .int .i64 0, .int .i64 0, .int .i64 0, .int .i64 0, .int .i64 0] 64)).cell? ⟨w.heap.size + 1, 8, none⟩ = some (.int .i64 0) := n2 8
  have z9 : ((w.alloc (.cells #[.slice sa xs.length cap, .slice ta ss.length dap, .int .i64 off] 27)).alloc (.cells #[.int .i64 0, .int .i64 0, .int .i64 0, .int .i64 0, .int .i64 0, .int .i64 0, .int .i64 0, .int .i64 0, .int .i64 0, .int .i64 0] 64)).cell? ⟨w.heap.size + 1, 9, none⟩ = some (.int .i64 0) := n2 9
  have HrT := hide rT
  have X0 := hide x0
  clear n1 n2 x0 y0 rS rT
  go_enter Try.func53, Try.ntmps53
  go_wp2_with fail
  refine (fixShape_any HS.out (by omega)).mono ?_
  rintro e w1 ⟨n, a0, a1, a2, a3, rfl, hX, x1⟩
  have y1 : Ext w1 (w1.alloc (.cells #[.int .i64 n, .int .i64 a0, .int .i64 a1, .int .i64 a2, .int .i64 a3] 62)) := (Ext.refl w1).alloc _ _
  have n3 := fun j => new_cell w1 #[.int .i64 n, .int .i64 a0, .int .i64 a1, .int .i64 a2, .int .i64 a3] 62 w1.heap.size rfl j
  have s0 : (w1.alloc (.cells #[.int .i64 n, .int .i64 a0, .int .i64 a1, .int .i64 a2, .int .i64 a3] 62)).cell? ⟨w1.heap.size, 0, none⟩ = some (.int .i64 n) := n3 0
  have s1 : (w1.alloc (.cells #[.int .i64 n, .int .i64 a0, .int .i64 a1, .int .i64 a2, .int .i64 a3] 62)).cell? ⟨w1.heap.size, 1, none⟩ = some (.int .i64 a0) := n3 1
  have s2 : (w1.alloc (.cells #[.int .i64 n, .int .i64 a0, .int .i64 a1, .int .i64 a2, .int .i64 a3] 62)).cell? ⟨w1.heap.size, 2, none⟩ = some (.int .i64 a1) := n3 2
  have s3 : (w1.alloc (.cells #[.int .i64 n, .int .i64 a0, .int .i64 a1, .int .i64 a2, .int .i64 a3] 62)).cell? ⟨w1.heap.size, 3, none⟩ = some (.int .i64 a2) := n3 3
  have s4 : (w1.alloc (.cells #[.int .i64 n, .int .i64 a0, .int .i64 a1, .int .i64 a2, .int .i64 a3] 62)).cell? ⟨w1.heap.size, 4, none⟩ = some (.int .i64 a3) := n3 4
  have v0 := x1.box k0
  have vv0 := y1.box v0
  have v1 := x1.box k1
  have vv1 := y1.box v1
  have v2 := x1.box k2
  have vv2 := y1.box v2
  have r0 := x1.box z0
  have r1 := x1.box z1
  have r2 := x1.box z2
  have r3 := x1.box z3
  have r4 := x1.box z4
  have r5 := x1.box z5
  have r6 := x1.box z6
  have r7 := x1.box z7
  have r8 := x1.box z8
  have r9 := x1.box z9
  have X1 := hide ((X0.out.trans x1).trans y1)
  have hB1 : w.heap.size + 1 < w1.heap.size := cell_lt (x1.box z0)
  have HX := hide hX
  have Hr : Hid (∀ j, j < 10 → w1.cell? ⟨w.heap.size + 1, j, none⟩ = some (.int .i64 0)) := fun j hj => by
    obtain rfl | rfl | rfl | rfl | rfl | rfl | rfl | rfl | rfl | rfl : j = 0 ∨ j = 1 ∨ j = 2 ∨ j = 3 ∨ j = 4 ∨ j = 5 ∨ j = 6 ∨ j = 7 ∨ j = 8 ∨ j = 9 := by omega
    all_goals assumption
  have XW1 := hide (X0.out.trans x1)
  have rf := fun o => (X0.out.trans x1).unfrozen (b := w.heap.size + 1) (by omega) o
  clear hX n3 k0 k1 k2 y1 x1 HS HT z0 z1 z2 z3 z4 z5 z6 z7 z8 z9
  have hg : goodB xs = true := decide_eq_true Hgood.out
  obtain ⟨en, e0, e1, e2, e3⟩ := HX.out Hgood.out
  have hx4 := Hgood.out.1
  have e12 : Ext (w1.alloc (.cells #[.int .i64 n, .int .i64 a0, .int .i64 a1, .int .i64 a2, .int .i64 a3] 62)) ((w1.alloc (.cells #[.int .i64 n, .int .i64 a0, .int .i64 a1, .int .i64 a2, .int .i64 a3] 62)).alloc (.cells #[.int .i64 n, .int .i64 a0, .int .i64 a1, .int .i64 a2, .int .i64 a3, .int .i64 0, .int .i64 0, .int .i64 0, .int .i64 0, .int .i64 off] 64)) := (Ext.refl _).alloc _ _
  have nf := fun j => new_cell (w1.alloc (.cells #[.int .i64 n, .int .i64 a0, .int .i64 a1, .int .i64 a2, .int .i64 a3] 62)) #[.int .i64 n, .int .i64 a0, .int .i64 a1, .int .i64 a2, .int .i64 a3, .int .i64 0, .int .i64 0, .int .i64 0, .int .i64 0, .int .i64 off] 64 (w1.heap.size + 1) (by simp) j
  have S0 : FVS w ((w1.alloc (.cells #[.int .i64 n, .int .i64 a0, .int .i64 a1, .int .i64 a2, .int .i64 a3] 62)).alloc (.cells #[.int .i64 n, .int .i64 a0, .int .i64 a1, .int .i64 a2, .int .i64 a3, .int .i64 0, .int .i64 0, .int .i64 0, .int .i64 0, .int .i64 off] 64)) (w1.heap.size + 1) (.slice sa xs.length cap) (.slice ta ss.length dap) xs ss off 0 := by
    refine ⟨e12.box vv1, fun j hj => e12.box (((Ext.refl w1).alloc _ _).box (Hr.out j hj)), ?_, fun j hj => ?_, fun j hj => ?_, nf 9, X1.out.trans e12⟩
    · rw [← en]; exact nf 0
    · obtain rfl | rfl | rfl | rfl : j = 0 ∨ j = 1 ∨ j = 2 ∨ j = 3 := by omega
      · rw [← e0]; exact nf 1
      · rw [← e1]; exact nf 2
      · rw [← e2]; exact nf 3
      · rw [← e3]; exact nf 4
    · rw [if_neg (by omega)]
      obtain rfl | rfl | rfl | rfl : j = 0 ∨ j = 1 ∨ j = 2 ∨ j = 3 := by omega
      · exact nf 5
      · exact nf 6
      · exact nf 7
      · exact nf 8
  have HS0 := hide S0
  have t1 := S0.v1
  have hln : (ss.length : Int) = n := by have := Hl.out; omega
  have o1 : ¬ off < 0 := by omega
  have o2 : ¬ 4096 < off := by omega
  have Hx4 := hide hx4
  have hB2 := hide hB1
  clear S0 nf e12 HX en e0 e1 e2 e3 hx4
  go_wp2
  try simp only [show decide (off < 0) = false from decide_eq_false o1, show decide (4096 < off) = false from decide_eq_false o2]
  generalize hB : w1.heap.size + 1 = B at HS0 ⊢
  have HBB : Hid (w.heap.size + 1 < B) := by have := hB2.out; show w.heap.size + 1 < B; omega
  clear hB t1 hB1
  go_loopw [43] (fun i wr => ∃ k : Nat, i = .int .i64 k ∧ k ≤ ss.length ∧ Hid (InS ss k) ∧ FVS w wr B (.slice sa xs.length cap) (.slice ta ss.length dap) xs ss off k) (fun i _ => ss.length - (intOf i).toNat)
  case atStart => exact ⟨0, rfl, by omega, fun j hj => absurd hj (Nat.not_lt_zero _), HS0.out⟩
  case round =>
    obtain ⟨k, rfl, hk, hin, hS⟩ := hrel
    have HS := hide hS
    clear hS
    have rr0 := HS.out.r 0 (by omega)
    have rr1 := HS.out.r 1 (by omega)
    have rr2 := HS.out.r 2 (by omega)
    have rr3 := HS.out.r 3 (by omega)
    have rr4 := HS.out.r 4 (by omega)
    have rr5 := HS.out.r 5 (by omega)
    have rr6 := HS.out.r 6 (by omega)
    have rr7 := HS.out.r 7 (by omega)
    have rr8 := HS.out.r 8 (by omega)
    have rr9 := HS.out.r 9 (by omega)
    have rf2 := fun o => HS.out.ex.unfrozen (b := w.heap.size + 1) (by omega) o
    have sf := fun o => HS.out.ex.unfrozen (b := B) (by have := HBB.out; omega) o
    by_cases hlt : k < ss.length
    · rcases HrT.out with h0 | ⟨b, o, rfl, hrow⟩
      · rw [h0] at hlt; simp at hlt
      have q0 := HS.out.ex.box (hrow k hlt)
      have hk4 : k < 4 := by have := Hl.out; have := Hx4.out; omega
      have hk0 : (0 : Int) ≤ (k : Int) := Int.natCast_nonneg _
      have hk1 : (k : Int) < (ss.length : Int) := by omega
      have hk2 : (k : Int) < n := by omega
      have hk44 : (k : Int) < 4 := by omega
      by_cases hr : -4096 ≤ ss.getD k 0 ∧ ss.getD k 0 ≤ 4096
      · have hin2 := hide (hin.out.step hr)
        have St := HS.out.step hk4 HBB.out
        have sk := HS.out.fs k hk4
        generalize ss.getD k 0 = x at q0 hr St
        have HSt := hide St
        clear St hrow
        have hlo : ¬ x < -4096 := by omega
        have hhi : ¬ 4096 < x := by omega
        go_wp2
        go_roundw
        · exact ⟨k + 1, by go_num, by omega, hin2, HSt.out⟩
        · simp [intOf]; omega
      · have Hno : Hid ((dcValidV xs ss off) = false) := decide_eq_false (fun q => hr (q.2.2.2.1 k hlt))
        generalize ss.getD k 0 = x at q0 hr
        clear hrow
        have hor : x < -4096 ∨ (¬ x < -4096 ∧ 4096 < x) := by omega
        rcases hor with hlo | ⟨hlo, hhi⟩
        all_goals
          go_wp2
          have Zz := (zs (zs (zs (zs (zs (zs (zs (zs (zs (zs HS.out.r 0) 1) 2) 3) 4) 5) 6) 7) 8) 9)
          have e0 := Zz 0 (by omega)
          have e1 := Zz 1 (by omega)
          have e2 := Zz 2 (by omega)
          have e3 := Zz 3 (by omega)
          have e4 := Zz 4 (by omega)
          have e5 := Zz 5 (by omega)
          have e6 := Zz 6 (by omega)
          have e7 := Zz 7 (by omega)
          have e8 := Zz 8 (by omega)
          have e9 := Zz 9 (by omega)
          exact bodyPost_ret (v := .tuple #[.agg #[.int .i64 0, .int .i64 0, .int .i64 0, .int .i64 0, .int .i64 0, .int .i64 0, .int .i64 0, .int .i64 0, .int .i64 0, .int .i64 0], .bool false]) (by simp [results, Try.results53, go_sem, e0, e1, e2, e3, e4, e5, e6, e7, e8, e9]) rfl (bad_fv Hno.out (by repeat (first | with_reducible exact HS.out.ex | with_reducible refine Ext.setCell ?_ (by show w.heap.size ≤ w.heap.size + 1; omega) _)))
    · have hkk : k = ss.length := by omega
      subst hkk
      have hsj : ∀ j, j < 4 → wr.cell? ⟨B, 5 + j, none⟩ = some (.int .i64 (ss.getD j 0)) := fun j hj => by
        rw [HS.out.fs j hj]
        by_cases e : j < ss.length
        · rw [if_pos e]
        · rw [if_neg e, List.getD_eq_getElem?_getD, List.getElem?_eq_none (by omega)]; rfl
      have g0 := HS.out.f0
      have g1 : wr.cell? ⟨B, 1, none⟩ = _ := HS.out.fl 0 (by omega)
      have g2 : wr.cell? ⟨B, 2, none⟩ = _ := HS.out.fl 1 (by omega)
      have g3 : wr.cell? ⟨B, 3, none⟩ = _ := HS.out.fl 2 (by omega)
      have g4 : wr.cell? ⟨B, 4, none⟩ = _ := HS.out.fl 3 (by omega)
      have g5 : wr.cell? ⟨B, 5, none⟩ = _ := hsj 0 (by omega)
      have g6 : wr.cell? ⟨B, 6, none⟩ = _ := hsj 1 (by omega)
      have g7 : wr.cell? ⟨B, 7, none⟩ = _ := hsj 2 (by omega)
      have g8 : wr.cell? ⟨B, 8, none⟩ = _ := hsj 3 (by omega)
      have g9 := HS.out.f9
      clear hsj
      have hval : Hid ((dcValidV xs ss off) = inB xs ss off) := decide_eq_decide.2 ⟨fun q => q.2.2.2.2, fun q => ⟨Hgood.out, Hl.out, ho, hin.out, q⟩⟩
      have hw := hide (fun W => within_any W xs ss off Hgood.out.1 Hgood.out.2.1 Hl.out hin.out ho)
      unfold vw at hw
      have HE := hide HS.out.ex
      generalize hc0 : xs.getD 0 0 = c0 at g1 hw
      have Hc0 := hide hc0
      clear hc0
      generalize hc1 : xs.getD 1 0 = c1 at g2 hw
      have Hc1 := hide hc1
      clear hc1
      generalize hc2 : xs.getD 2 0 = c2 at g3 hw
      have Hc2 := hide hc2
      clear hc2
      generalize hc3 : xs.getD 3 0 = c3 at g4 hw
      have Hc3 := hide hc3
      clear hc3
      generalize hd0 : ss.getD 0 0 = d0 at g5 hw
      have Hd0 := hide hd0
      clear hd0
      generalize hd1 : ss.getD 1 0 = d1 at g6 hw
      have Hd1 := hide hd1
      clear hd1
      generalize hd2 : ss.getD 2 0 = d2 at g7 hw
      have Hd2 := hide hd2
      clear hd2
      generalize hd3 : ss.getD 3 0 = d3 at g8 hw
      have Hd3 := hide hd3
      clear hd3
      generalize inB xs ss off = ib at hval hw
      go_wp2_with fail
      have D0 : Ext wr wr.drew := (Ext.refl wr).drew
      have dr0 := D0.box rr0
      have dr1 := D0.box rr1
      have dr2 := D0.box rr2
      have dr3 := D0.box rr3
      have dr4 := D0.box rr4
      have dr5 := D0.box rr5
      have dr6 := D0.box rr6
      have dr7 := D0.box rr7
      have dr8 := D0.box rr8
      have dr9 := D0.box rr9
      have dg0 := D0.box g0
      have dg1 := D0.box g1
      have dg2 := D0.box g2
      have dg3 := D0.box g3
      have dg4 := D0.box g4
      have dg5 := D0.box g5
      have dg6 := D0.box g6
      have dg7 := D0.box g7
      have dg8 := D0.box g8
      have dg9 := D0.box g9
      have HED := hide (HE.out.trans D0)
      have hne : w.heap.size + 1 ≠ B := by have := HBB.out; omega
      have Hne := hide hne
      have SA : Hid ((fun w' => w'.cell? ⟨B, 0, none⟩ = some (.int .i64 (xs.length : Int)) ∧ w'.cell? ⟨B, 1, none⟩ = some (.int .i64 c0) ∧ w'.cell? ⟨B, 2, none⟩ = some (.int .i64 c1) ∧ w'.cell? ⟨B, 3, none⟩ = some (.int .i64 c2) ∧ w'.cell? ⟨B, 4, none⟩ = some (.int .i64 c3) ∧ w'.cell? ⟨B, 5, none⟩ = some (.int .i64 d0) ∧ w'.cell? ⟨B, 6, none⟩ = some (.int .i64 d1) ∧ w'.cell? ⟨B, 7, none⟩ = some (.int .i64 d2) ∧ w'.cell? ⟨B, 8, none⟩ = some (.int .i64 d3) ∧ w'.cell? ⟨B, 9, none⟩ = some (.int .i64 off)) wr.drew) := ⟨dg0, dg1, dg2, dg3, dg4, dg5, dg6, dg7, dg8, dg9⟩
      clear D0 hne
      go_region_held3 (fun w' => w'.cell? ⟨B, 0, none⟩ = some (.int .i64 (xs.length : Int)) ∧ w'.cell? ⟨B, 1, none⟩ = some (.int .i64 c0) ∧ w'.cell? ⟨B, 2, none⟩ = some (.int .i64 c1) ∧ w'.cell? ⟨B, 3, none⟩ = some (.int .i64 c2) ∧ w'.cell? ⟨B, 4, none⟩ = some (.int .i64 c3) ∧ w'.cell? ⟨B, 5, none⟩ = some (.int .i64 d0) ∧ w'.cell? ⟨B, 6, none⟩ = some (.int .i64 d1) ∧ w'.cell? ⟨B, 7, none⟩ = some (.int .i64 d2) ∧ w'.cell? ⟨B, 8, none⟩ = some (.int .i64 d3) ∧ w'.cell? ⟨B, 9, none⟩ = some (.int .i64 off)) (first | with_reducible exact SA.out | with_reducible exact SB'.out | with_reducible exact SC'.out) (first | (go_at_call 79; refine (hw.out _).mono ?_; rintro e w2 ⟨rfl, x2⟩; have y0 := x2.box dr0; have y1 := x2.box dr1; have y2 := x2.box dr2; have y3 := x2.box dr3; have y4 := x2.box dr4; have y5 := x2.box dr5; have y6 := x2.box dr6; have y7 := x2.box dr7; have y8 := x2.box dr8; have y9 := x2.box dr9; have z0 := x2.box dg0; have z1 := x2.box dg1; have z2 := x2.box dg2; have z3 := x2.box dg3; have z4 := x2.box dg4; have z5 := x2.box dg5; have z6 := x2.box dg6; have z7 := x2.box dg7; have z8 := x2.box dg8; have z9 := x2.box dg9; have yf : ∀ o, w2.frozen? ⟨w.heap.size + 1, o, none⟩ = false := fun o => (x2.fz _).trans (by first | exact rf2 o | (simp [rf2]; done)); have HX2 := hide (HED.out.trans x2); clear x2; have SB' : Hid ((fun w' => w'.cell? ⟨B, 0, none⟩ = some (.int .i64 (xs.length : Int)) ∧ w'.cell? ⟨B, 1, none⟩ = some (.int .i64 c0) ∧ w'.cell? ⟨B, 2, none⟩ = some (.int .i64 c1) ∧ w'.cell? ⟨B, 3, none⟩ = some (.int .i64 c2) ∧ w'.cell? ⟨B, 4, none⟩ = some (.int .i64 c3) ∧ w'.cell? ⟨B, 5, none⟩ = some (.int .i64 d0) ∧ w'.cell? ⟨B, 6, none⟩ = some (.int .i64 d1) ∧ w'.cell? ⟨B, 7, none⟩ = some (.int .i64 d2) ∧ w'.cell? ⟨B, 8, none⟩ = some (.int .i64 d3) ∧ w'.cell? ⟨B, 9, none⟩ = some (.int .i64 off)) w2) := ⟨z0, z1, z2, z3, z4, z5, z6, z7, z8, z9⟩; have SC' : Hid ((fun w' => w'.cell? ⟨B, 0, none⟩ = some (.int .i64 (xs.length : Int)) ∧ w'.cell? ⟨B, 1, none⟩ = some (.int .i64 c0) ∧ w'.cell? ⟨B, 2, none⟩ = some (.int .i64 c1) ∧ w'.cell? ⟨B, 3, none⟩ = some (.int .i64 c2) ∧ w'.cell? ⟨B, 4, none⟩ = some (.int .i64 c3) ∧ w'.cell? ⟨B, 5, none⟩ = some (.int .i64 d0) ∧ w'.cell? ⟨B, 6, none⟩ = some (.int .i64 d1) ∧ w'.cell? ⟨B, 7, none⟩ = some (.int .i64 d2) ∧ w'.cell? ⟨B, 8, none⟩ = some (.int .i64 d3) ∧ w'.cell? ⟨B, 9, none⟩ = some (.int .i64 off)) ((((((((((w2.setCell ⟨w.heap.size + 1, 0, none⟩ (.int .i64 (xs.length : Int))).setCell ⟨w.heap.size + 1, 1, none⟩ (.int .i64 c0)).setCell ⟨w.heap.size + 1, 2, none⟩ (.int .i64 c1)).setCell ⟨w.heap.size + 1, 3, none⟩ (.int .i64 c2)).setCell ⟨w.heap.size + 1, 4, none⟩ (.int .i64 c3)).setCell ⟨w.heap.size + 1, 5, none⟩ (.int .i64 d0)).setCell ⟨w.heap.size + 1, 6, none⟩ (.int .i64 d1)).setCell ⟨w.heap.size + 1, 7, none⟩ (.int .i64 d2)).setCell ⟨w.heap.size + 1, 8, none⟩ (.int .i64 d3)).setCell ⟨w.heap.size + 1, 9, none⟩ (.int .i64 off))) := ⟨far10 Hne.out z0, far10 Hne.out z1, far10 Hne.out z2, far10 Hne.out z3, far10 Hne.out z4, far10 Hne.out z5, far10 Hne.out z6, far10 Hne.out z7, far10 Hne.out z8, far10 Hne.out z9⟩))
      all_goals go_wp2
      all_goals
        have hy : ∀ j, j < 10 → w2.cell? ⟨w.heap.size + 1, j, none⟩ = some ((fun _ => (.int .i64 0 : Value)) j) := fun j hj => by
          obtain rfl | rfl | rfl | rfl | rfl | rfl | rfl | rfl | rfl | rfl : j = 0 ∨ j = 1 ∨ j = 2 ∨ j = 3 ∨ j = 4 ∨ j = 5 ∨ j = 6 ∨ j = 7 ∨ j = 8 ∨ j = 9 := by omega
          all_goals assumption
        have Zz := (zt (zt (zt (zt (zt (zt (zt (zt (zt (zt hy 0 (.int .i64 (xs.length : Int))) 1 (.int .i64 c0)) 2 (.int .i64 c1)) 3 (.int .i64 c2)) 4 (.int .i64 c3)) 5 (.int .i64 d0)) 6 (.int .i64 d1)) 7 (.int .i64 d2)) 8 (.int .i64 d3)) 9 (.int .i64 off))
        have q0 : ((((((((((w2.setCell ⟨w.heap.size + 1, 0, none⟩ (.int .i64 (xs.length : Int))).setCell ⟨w.heap.size + 1, 1, none⟩ (.int .i64 c0)).setCell ⟨w.heap.size + 1, 2, none⟩ (.int .i64 c1)).setCell ⟨w.heap.size + 1, 3, none⟩ (.int .i64 c2)).setCell ⟨w.heap.size + 1, 4, none⟩ (.int .i64 c3)).setCell ⟨w.heap.size + 1, 5, none⟩ (.int .i64 d0)).setCell ⟨w.heap.size + 1, 6, none⟩ (.int .i64 d1)).setCell ⟨w.heap.size + 1, 7, none⟩ (.int .i64 d2)).setCell ⟨w.heap.size + 1, 8, none⟩ (.int .i64 d3)).setCell ⟨w.heap.size + 1, 9, none⟩ (.int .i64 off)).cell? ⟨w.heap.size + 1, 0, none⟩ = some (.int .i64 (xs.length : Int)) := (Zz 0 (by omega)).trans rfl
        have q1 : ((((((((((w2.setCell ⟨w.heap.size + 1, 0, none⟩ (.int .i64 (xs.length : Int))).setCell ⟨w.heap.size + 1, 1, none⟩ (.int .i64 c0)).setCell ⟨w.heap.size + 1, 2, none⟩ (.int .i64 c1)).setCell ⟨w.heap.size + 1, 3, none⟩ (.int .i64 c2)).setCell ⟨w.heap.size + 1, 4, none⟩ (.int .i64 c3)).setCell ⟨w.heap.size + 1, 5, none⟩ (.int .i64 d0)).setCell ⟨w.heap.size + 1, 6, none⟩ (.int .i64 d1)).setCell ⟨w.heap.size + 1, 7, none⟩ (.int .i64 d2)).setCell ⟨w.heap.size + 1, 8, none⟩ (.int .i64 d3)).setCell ⟨w.heap.size + 1, 9, none⟩ (.int .i64 off)).cell? ⟨w.heap.size + 1, 1, none⟩ = some (.int .i64 c0) := (Zz 1 (by omega)).trans rfl
        have q2 : ((((((((((w2.setCell ⟨w.heap.size + 1, 0, none⟩ (.int .i64 (xs.length : Int))).setCell ⟨w.heap.size + 1, 1, none⟩ (.int .i64 c0)).setCell ⟨w.heap.size + 1, 2, none⟩ (.int .i64 c1)).setCell ⟨w.heap.size + 1, 3, none⟩ (.int .i64 c2)).setCell ⟨w.heap.size + 1, 4, none⟩ (.int .i64 c3)).setCell ⟨w.heap.size + 1, 5, none⟩ (.int .i64 d0)).setCell ⟨w.heap.size + 1, 6, none⟩ (.int .i64 d1)).setCell ⟨w.heap.size + 1, 7, none⟩ (.int .i64 d2)).setCell ⟨w.heap.size + 1, 8, none⟩ (.int .i64 d3)).setCell ⟨w.heap.size + 1, 9, none⟩ (.int .i64 off)).cell? ⟨w.heap.size + 1, 2, none⟩ = some (.int .i64 c1) := (Zz 2 (by omega)).trans rfl
        have q3 : ((((((((((w2.setCell ⟨w.heap.size + 1, 0, none⟩ (.int .i64 (xs.length : Int))).setCell ⟨w.heap.size + 1, 1, none⟩ (.int .i64 c0)).setCell ⟨w.heap.size + 1, 2, none⟩ (.int .i64 c1)).setCell ⟨w.heap.size + 1, 3, none⟩ (.int .i64 c2)).setCell ⟨w.heap.size + 1, 4, none⟩ (.int .i64 c3)).setCell ⟨w.heap.size + 1, 5, none⟩ (.int .i64 d0)).setCell ⟨w.heap.size + 1, 6, none⟩ (.int .i64 d1)).setCell ⟨w.heap.size + 1, 7, none⟩ (.int .i64 d2)).setCell ⟨w.heap.size + 1, 8, none⟩ (.int .i64 d3)).setCell ⟨w.heap.size + 1, 9, none⟩ (.int .i64 off)).cell? ⟨w.heap.size + 1, 3, none⟩ = some (.int .i64 c2) := (Zz 3 (by omega)).trans rfl
        have q4 : ((((((((((w2.setCell ⟨w.heap.size + 1, 0, none⟩ (.int .i64 (xs.length : Int))).setCell ⟨w.heap.size + 1, 1, none⟩ (.int .i64 c0)).setCell ⟨w.heap.size + 1, 2, none⟩ (.int .i64 c1)).setCell ⟨w.heap.size + 1, 3, none⟩ (.int .i64 c2)).setCell ⟨w.heap.size + 1, 4, none⟩ (.int .i64 c3)).setCell ⟨w.heap.size + 1, 5, none⟩ (.int .i64 d0)).setCell ⟨w.heap.size + 1, 6, none⟩ (.int .i64 d1)).setCell ⟨w.heap.size + 1, 7, none⟩ (.int .i64 d2)).setCell ⟨w.heap.size + 1, 8, none⟩ (.int .i64 d3)).setCell ⟨w.heap.size + 1, 9, none⟩ (.int .i64 off)).cell? ⟨w.heap.size + 1, 4, none⟩ = some (.int .i64 c3) := (Zz 4 (by omega)).trans rfl
        have q5 : ((((((((((w2.setCell ⟨w.heap.size + 1, 0, none⟩ (.int .i64 (xs.length : Int))).setCell ⟨w.heap.size + 1, 1, none⟩ (.int .i64 c0)).setCell ⟨w.heap.size + 1, 2, none⟩ (.int .i64 c1)).setCell ⟨w.heap.size + 1, 3, none⟩ (.int .i64 c2)).setCell ⟨w.heap.size + 1, 4, none⟩ (.int .i64 c3)).setCell ⟨w.heap.size + 1, 5, none⟩ (.int .i64 d0)).setCell ⟨w.heap.size + 1, 6, none⟩ (.int .i64 d1)).setCell ⟨w.heap.size + 1, 7, none⟩ (.int .i64 d2)).setCell ⟨w.heap.size + 1, 8, none⟩ (.int .i64 d3)).setCell ⟨w.heap.size + 1, 9, none⟩ (.int .i64 off)).cell? ⟨w.heap.size + 1, 5, none⟩ = some (.int .i64 d0) := (Zz 5 (by omega)).trans rfl
        have q6 : ((((((((((w2.setCell ⟨w.heap.size + 1, 0, none⟩ (.int .i64 (xs.length : Int))).setCell ⟨w.heap.size + 1, 1, none⟩ (.int .i64 c0)).setCell ⟨w.heap.size + 1, 2, none⟩ (.int .i64 c1)).setCell ⟨w.heap.size + 1, 3, none⟩ (.int .i64 c2)).setCell ⟨w.heap.size + 1, 4, none⟩ (.int .i64 c3)).setCell ⟨w.heap.size + 1, 5, none⟩ (.int .i64 d0)).setCell ⟨w.heap.size + 1, 6, none⟩ (.int .i64 d1)).setCell ⟨w.heap.size + 1, 7, none⟩ (.int .i64 d2)).setCell ⟨w.heap.size + 1, 8, none⟩ (.int .i64 d3)).setCell ⟨w.heap.size + 1, 9, none⟩ (.int .i64 off)).cell? ⟨w.heap.size + 1, 6, none⟩ = some (.int .i64 d1) := (Zz 6 (by omega)).trans rfl
        have q7 : ((((((((((w2.setCell ⟨w.heap.size + 1, 0, none⟩ (.int .i64 (xs.length : Int))).setCell ⟨w.heap.size + 1, 1, none⟩ (.int .i64 c0)).setCell ⟨w.heap.size + 1, 2, none⟩ (.int .i64 c1)).setCell ⟨w.heap.size + 1, 3, none⟩ (.int .i64 c2)).setCell ⟨w.heap.size + 1, 4, none⟩ (.int .i64 c3)).setCell ⟨w.heap.size + 1, 5, none⟩ (.int .i64 d0)).setCell ⟨w.heap.size + 1, 6, none⟩ (.int .i64 d1)).setCell ⟨w.heap.size + 1, 7, none⟩ (.int .i64 d2)).setCell ⟨w.heap.size + 1, 8, none⟩ (.int .i64 d3)).setCell ⟨w.heap.size + 1, 9, none⟩ (.int .i64 off)).cell? ⟨w.heap.size + 1, 7, none⟩ = some (.int .i64 d2) := (Zz 7 (by omega)).trans rfl
        have q8 : ((((((((((w2.setCell ⟨w.heap.size + 1, 0, none⟩ (.int .i64 (xs.length : Int))).setCell ⟨w.heap.size + 1, 1, none⟩ (.int .i64 c0)).setCell ⟨w.heap.size + 1, 2, none⟩ (.int .i64 c1)).setCell ⟨w.heap.size + 1, 3, none⟩ (.int .i64 c2)).setCell ⟨w.heap.size + 1, 4, none⟩ (.int .i64 c3)).setCell ⟨w.heap.size + 1, 5, none⟩ (.int .i64 d0)).setCell ⟨w.heap.size + 1, 6, none⟩ (.int .i64 d1)).setCell ⟨w.heap.size + 1, 7, none⟩ (.int .i64 d2)).setCell ⟨w.heap.size + 1, 8, none⟩ (.int .i64 d3)).setCell ⟨w.heap.size + 1, 9, none⟩ (.int .i64 off)).cell? ⟨w.heap.size + 1, 8, none⟩ = some (.int .i64 d3) := (Zz 8 (by omega)).trans rfl
        have q9 : ((((((((((w2.setCell ⟨w.heap.size + 1, 0, none⟩ (.int .i64 (xs.length : Int))).setCell ⟨w.heap.size + 1, 1, none⟩ (.int .i64 c0)).setCell ⟨w.heap.size + 1, 2, none⟩ (.int .i64 c1)).setCell ⟨w.heap.size + 1, 3, none⟩ (.int .i64 c2)).setCell ⟨w.heap.size + 1, 4, none⟩ (.int .i64 c3)).setCell ⟨w.heap.size + 1, 5, none⟩ (.int .i64 d0)).setCell ⟨w.heap.size + 1, 6, none⟩ (.int .i64 d1)).setCell ⟨w.heap.size + 1, 7, none⟩ (.int .i64 d2)).setCell ⟨w.heap.size + 1, 8, none⟩ (.int .i64 d3)).setCell ⟨w.heap.size + 1, 9, none⟩ (.int .i64 off)).cell? ⟨w.heap.size + 1, 9, none⟩ = some (.int .i64 off) := (Zz 9 (by omega)).trans rfl
        exact bodyPost_ret (v := .tuple #[.agg #[.int .i64 (xs.length : Int), .int .i64 c0, .int .i64 c1, .int .i64 c2, .int .i64 c3, .int .i64 d0, .int .i64 d1, .int .i64 d2, .int .i64 d3, .int .i64 off], .bool ib]) (by simp [results, Try.results53, go_sem, q0, q1, q2, q3, q4, q5, q6, q7, q8, q9]) rfl ⟨_, by rw [hval.out], fun _ => by unfold vw; rw [Hc0.out, Hc1.out, Hc2.out, Hc3.out, Hd0.out, Hd1.out, Hd2.out, Hd3.out], ⟨_, _, _, _, _, _, _, _, _, _, rfl⟩, by repeat (first | with_reducible exact HX2.out | with_reducible refine Ext.setCell ?_ (by show w.heap.size ≤ w.heap.size + 1; omega) _)⟩
end Go.Proofs.Ytiekkninnjffpaa
namespace Go.Proofs.Ytiekkninnjffpaa
open Go.ChangeShapes Go.RowKit
set_option linter.unusedSimpArgs false
set_option linter.unusedVariables false

/-- Does the shape xs stretch to ys? -/
abbrev Strs (xs ys : List Int) : Prop := xs.length ≤ ys.length ∧ ∀ j, j < xs.length → (xs.getD j 0 = ys.getD (ys.length - xs.length + j) 0 ∨ xs.getD j 0 = 1)
def dcStrs (xs ys : List Int) : Bool := decide (Strs xs ys)
theorem dcStrs_t {xs ys : List Int} (h : Strs xs ys) : dcStrs xs ys = true := decide_eq_true h
theorem dcStrs_f {xs ys : List Int} (h : ¬ Strs xs ys) : dcStrs xs ys = false := decide_eq_false h

/-- The stride at axis i behind it. -/
def strAt (xs ss ys : List Int) (i : Nat) : Int :=
  if i < ys.length - xs.length then 0 else if xs.getD (i - (ys.length - xs.length)) 0 = ys.getD i 0 then ss.getD (i - (ys.length - xs.length)) 0 else 0
def bstr (xs ss ys : List Int) : List Int := (List.range ys.length).map (strAt xs ss ys)
theorem bstr_len (xs ss ys : List Int) : (bstr xs ss ys).length = ys.length := by simp [bstr]
theorem bstr_getD (xs ss ys : List Int) (i : Nat) : (bstr xs ss ys).getD i 0 = if i < ys.length then strAt xs ss ys i else 0 := by
  unfold bstr
  by_cases h : i < ys.length
  · rw [if_pos h]; simp [List.getD_eq_getElem?_getD, h]
  · rw [if_neg h]; simp [List.getD_eq_getElem?_getD, h]

def StrOk (w : World) (xs ss ys : List Int) (off : Int) (e : Ending) (w' : World) : Prop :=
  ∃ A : Array Value, e = .returned (.tuple #[.agg A, .bool (dcStrs xs ys)]) ∧ (Strs xs ys → A = vw ys (bstr xs ss ys) off) ∧ (∃ a0 a1 a2 a3 a4 a5 a6 a7 a8 a9 : Int, A = #[.int .i64 a0, .int .i64 a1, .int .i64 a2, .int .i64 a3, .int .i64 a4, .int .i64 a5, .int .i64 a6, .int .i64 a7, .int .i64 a8, .int .i64 a9]) ∧ Ext w w'
theorem bad_str {w w' : World} {xs ss ys : List Int} {off : Int} (h : ¬ Strs xs ys) (x : Ext w w') : StrOk w xs ss ys off (.returned (.tuple #[.agg #[.int .i64 0, .int .i64 0, .int .i64 0, .int .i64 0, .int .i64 0, .int .i64 0, .int .i64 0, .int .i64 0, .int .i64 0, .int .i64 0], .bool false])) w' :=
  ⟨_, by rw [dcStrs_f h], fun q => absurd q h, ⟨0, 0, 0, 0, 0, 0, 0, 0, 0, 0, rfl⟩, x⟩

/-- The world of the loop: f at block w.heap.size, s behind it, the answer behind that, out at B. -/
structure STW (w wr : World) (B : Nat) (xs ss ys : List Int) (off : Int) (k : Nat) : Prop where
  f0 : wr.cell? ⟨w.heap.size, 0, none⟩ = some (.int .i64 xs.length)
  fl : ∀ j, j < 4 → wr.cell? ⟨w.heap.size, 1 + j, none⟩ = some (.int .i64 (xs.getD j 0))
  fs : ∀ j, j < 4 → wr.cell? ⟨w.heap.size, 5 + j, none⟩ = some (.int .i64 (ss.getD j 0))
  sl : ∀ j, j < 4 → wr.cell? ⟨w.heap.size + 1, 1 + j, none⟩ = some (.int .i64 (ys.getD j 0))
  r : ∀ j, j < 10 → wr.cell? ⟨w.heap.size + 1 + 1, j, none⟩ = some (.int .i64 0)
  o0 : wr.cell? ⟨B, 0, none⟩ = some (.int .i64 ys.length)
  ol : ∀ j, j < 4 → wr.cell? ⟨B, 1 + j, none⟩ = some (.int .i64 (ys.getD j 0))
  os : ∀ j, j < 4 → wr.cell? ⟨B, 5 + j, none⟩ = some (.int .i64 (if j < ys.length - xs.length + k then (bstr xs ss ys).getD j 0 else 0))
  o9 : wr.cell? ⟨B, 9, none⟩ = some (.int .i64 off)
  ex : Ext w wr

theorem STW.step {w wr : World} {B : Nat} {xs ss ys : List Int} {off : Int} {k : Nat} (h : STW w wr B xs ss ys off k) (hk : ys.length - xs.length + k < 4) (hB : w.heap.size + 2 < B) {v : Int} (hv : v = (bstr xs ss ys).getD (ys.length - xs.length + k) 0) :
    STW w (wr.setCell ⟨B, 5 + (ys.length - xs.length + k), none⟩ (.int .i64 v)) B xs ss ys off (k + 1) := by
  have m : Mut B wr (wr.setCell ⟨B, 5 + (ys.length - xs.length + k), none⟩ (.int .i64 v)) := (Mut.refl _ _).setCell _ _
  refine ⟨m.box (by omega) h.f0, fun j hj => m.box (by omega) (h.fl j hj), fun j hj => m.box (by omega) (h.fs j hj), fun j hj => m.box (by omega) (h.sl j hj), fun j hj => m.box (by omega) (h.r j hj), ?_, fun j hj => ?_, fun j hj => ?_, ?_, h.ex.setCell (by show w.heap.size ≤ B; omega) _⟩
  · rw [World.cell?_setCell_other _ _ _ _ (by intro h; simp only [Addr.mk.injEq] at h; omega)]; exact h.o0
  · rw [World.cell?_setCell_other _ _ _ _ (by intro h; simp only [Addr.mk.injEq] at h; omega)]; exact h.ol j hj
  · by_cases e : j = ys.length - xs.length + k
    · subst e
      rw [if_pos (by omega), hv]
      exact World.cell?_setCell_same _ _ _ (h.os _ hj)
    · rw [World.cell?_setCell_other _ _ _ _ (by intro h; simp only [Addr.mk.injEq] at h; omega), h.os j hj]
      by_cases h1 : j < ys.length - xs.length + k
      · rw [if_pos h1, if_pos (by omega)]
      · rw [if_neg h1, if_neg (by omega)]
  · rw [World.cell?_setCell_other _ _ _ _ (by intro h; simp only [Addr.mk.injEq] at h; omega)]; exact h.o9

/-- An axis that is stretched: nothing is written. -/
theorem STW.skip {w wr : World} {B : Nat} {xs ss ys : List Int} {off : Int} {k : Nat} (h : STW w wr B xs ss ys off k) (hk : ys.length - xs.length + k < 4) (hv : (bstr xs ss ys).getD (ys.length - xs.length + k) 0 = 0) :
    STW w wr B xs ss ys off (k + 1) := by
  refine ⟨h.f0, h.fl, h.fs, h.sl, h.r, h.o0, h.ol, fun j hj => ?_, h.o9, h.ex⟩
  rw [h.os j hj]
  by_cases e : j = ys.length - xs.length + k
  · subst e
    rw [if_neg (by omega), if_pos (by omega), hv]
  · by_cases h1 : j < ys.length - xs.length + k
    · rw [if_pos h1, if_pos (by omega)]
    · rw [if_neg h1, if_neg (by omega)]

set_option maxRecDepth 100000 in
set_option maxHeartbeats 2000000 in
theorem stretched_any (w : World) (xs ss ys : List Int) (off : Int) (hx4 : xs.length ≤ 4) (hy4 : ys.length ≤ 4) (hl : ss.length = xs.length) :
    Calls Try.prog 66 #[.agg (vw xs ss off), .agg (shp ys)] w fun e w' => StrOk w xs ss ys off e w' := by
  have x0 : Ext w (((w.alloc (.cells (vw xs ss off) 64)).alloc (.cells (shp ys) 62)).alloc (.cells #[.int .i64 0, .int .i64 0, .int .i64 0, .int .i64 0, .int .i64 0, .int .i64 0, .int .i64 0, .int .i64 0, .int .i64 0, .int .i64 0] 64)) := (((Ext.refl w).alloc _ _).alloc _ _).alloc _ _
  have y1 : Ext (w.alloc (.cells (vw xs ss off) 64)) (((w.alloc (.cells (vw xs ss off) 64)).alloc (.cells (shp ys) 62)).alloc (.cells #[.int .i64 0, .int .i64 0, .int .i64 0, .int .i64 0, .int .i64 0, .int .i64 0, .int .i64 0, .int .i64 0, .int .i64 0, .int .i64 0] 64)) := ((Ext.refl _).alloc _ _).alloc _ _
  have y2 : Ext ((w.alloc (.cells (vw xs ss off) 64)).alloc (.cells (shp ys) 62)) (((w.alloc (.cells (vw xs ss off) 64)).alloc (.cells (shp ys) 62)).alloc (.cells #[.int .i64 0, .int .i64 0, .int .i64 0, .int .i64 0, .int .i64 0, .int .i64 0, .int .i64 0, .int .i64 0, .int .i64 0, .int .i64 0] 64)) := (Ext.refl _).alloc _ _
  have n1 := fun j => new_cell w (vw xs ss off) 64 w.heap.size rfl j
  have n2 := fun j => new_cell (w.alloc (.cells (vw xs ss off) 64)) (shp ys) 62 (w.heap.size + 1) (by simp) j
  have n3 := fun j => new_cell ((w.alloc (.cells (vw xs ss off) 64)).alloc (.cells (shp ys) 62)) #[.int .i64 0, .int .i64 0, .int .i64 0, .int .i64 0, .int .i64 0, .int .i64 0, .int .i64 0, .int .i64 0, .int .i64 0, .int .i64 0] 64 (w.heap.size + 1 + 1) (by simp) j
  have f0 := y1.box (n1 0)
  have f9 := y1.box (n1 9)
  have s0 := y2.box (n2 0)
  have c1 := y2.box (n2 1)
  have c2 := y2.box (n2 2)
  have c3 := y2.box (n2 3)
  have c4 := y2.box (n2 4)
  have hfl : Hid (∀ j, j < 4 → (((w.alloc (.cells (vw xs ss off) 64)).alloc (.cells (shp ys) 62)).alloc (.cells #[.int .i64 0, .int .i64 0, .int .i64 0, .int .i64 0, .int .i64 0, .int .i64 0, .int .i64 0, .int .i64 0, .int .i64 0, .int .i64 0] 64)).cell? ⟨w.heap.size, 1 + j, none⟩ = some (.int .i64 (xs.getD j 0))) := fun j hj => by
    obtain rfl | rfl | rfl | rfl : j = 0 ∨ j = 1 ∨ j = 2 ∨ j = 3 := by omega
    exact y1.box (n1 1)
    exact y1.box (n1 2)
    exact y1.box (n1 3)
    exact y1.box (n1 4)
  have hfs : Hid (∀ j, j < 4 → (((w.alloc (.cells (vw xs ss off) 64)).alloc (.cells (shp ys) 62)).alloc (.cells #[.int .i64 0, .int .i64 0, .int .i64 0, .int .i64 0, .int .i64 0, .int .i64 0, .int .i64 0, .int .i64 0, .int .i64 0, .int .i64 0] 64)).cell? ⟨w.heap.size, 5 + j, none⟩ = some (.int .i64 (ss.getD j 0))) := fun j hj => by
    obtain rfl | rfl | rfl | rfl : j = 0 ∨ j = 1 ∨ j = 2 ∨ j = 3 := by omega
    exact y1.box (n1 5)
    exact y1.box (n1 6)
    exact y1.box (n1 7)
    exact y1.box (n1 8)
  have hsl : Hid (∀ j, j < 4 → (((w.alloc (.cells (vw xs ss off) 64)).alloc (.cells (shp ys) 62)).alloc (.cells #[.int .i64 0, .int .i64 0, .int .i64 0, .int .i64 0, .int .i64 0, .int .i64 0, .int .i64 0, .int .i64 0, .int .i64 0, .int .i64 0] 64)).cell? ⟨w.heap.size + 1, 1 + j, none⟩ = some (.int .i64 (ys.getD j 0))) := fun j hj => by
    obtain rfl | rfl | rfl | rfl : j = 0 ∨ j = 1 ∨ j = 2 ∨ j = 3 := by omega
    exact y2.box (n2 1)
    exact y2.box (n2 2)
    exact y2.box (n2 3)
    exact y2.box (n2 4)
  have hr : Hid (∀ j, j < 10 → (((w.alloc (.cells (vw xs ss off) 64)).alloc (.cells (shp ys) 62)).alloc (.cells #[.int .i64 0, .int .i64 0, .int .i64 0, .int .i64 0, .int .i64 0, .int .i64 0, .int .i64 0, .int .i64 0, .int .i64 0, .int .i64 0] 64)).cell? ⟨w.heap.size + 1 + 1, j, none⟩ = some (.int .i64 0)) := fun j hj => by
    obtain rfl | rfl | rfl | rfl | rfl | rfl | rfl | rfl | rfl | rfl : j = 0 ∨ j = 1 ∨ j = 2 ∨ j = 3 ∨ j = 4 ∨ j = 5 ∨ j = 6 ∨ j = 7 ∨ j = 8 ∨ j = 9 := by omega
    all_goals exact n3 _
  have X0 := hide x0
  have hz : Hid ((((w.alloc (.cells (vw xs ss off) 64)).alloc (.cells (shp ys) 62)).alloc (.cells #[.int .i64 0, .int .i64 0, .int .i64 0, .int .i64 0, .int .i64 0, .int .i64 0, .int .i64 0, .int .i64 0, .int .i64 0, .int .i64 0] 64)).heap.size = w.heap.size + 3) := by
    show (((w.alloc (.cells (vw xs ss off) 64)).alloc (.cells (shp ys) 62)).alloc (.cells #[.int .i64 0, .int .i64 0, .int .i64 0, .int .i64 0, .int .i64 0, .int .i64 0, .int .i64 0, .int .i64 0, .int .i64 0, .int .i64 0] 64)).heap.size = _; simp
  clear n1 n2 n3 y1 y2 x0
  have Hl := hide hl
  clear hl
  unfold vw shp at *
  generalize hxa0 : xs.getD 0 0 = a0 at f0 f9 X0 hz hfl hfs hsl hr s0 c1 c2 c3 c4 ⊢
  generalize hxa1 : xs.getD 1 0 = a1 at f0 f9 X0 hz hfl hfs hsl hr s0 c1 c2 c3 c4 ⊢
  generalize hxa2 : xs.getD 2 0 = a2 at f0 f9 X0 hz hfl hfs hsl hr s0 c1 c2 c3 c4 ⊢
  generalize hxa3 : xs.getD 3 0 = a3 at f0 f9 X0 hz hfl hfs hsl hr s0 c1 c2 c3 c4 ⊢
  generalize hsb0 : ss.getD 0 0 = b0 at f0 f9 X0 hz hfl hfs hsl hr s0 c1 c2 c3 c4 ⊢
  generalize hsb1 : ss.getD 1 0 = b1 at f0 f9 X0 hz hfl hfs hsl hr s0 c1 c2 c3 c4 ⊢
  generalize hsb2 : ss.getD 2 0 = b2 at f0 f9 X0 hz hfl hfs hsl hr s0 c1 c2 c3 c4 ⊢
  generalize hsb3 : ss.getD 3 0 = b3 at f0 f9 X0 hz hfl hfs hsl hr s0 c1 c2 c3 c4 ⊢
  generalize hyc0 : ys.getD 0 0 = d0 at f0 f9 X0 hz hfl hfs hsl hr s0 c1 c2 c3 c4 ⊢
  generalize hyc1 : ys.getD 1 0 = d1 at f0 f9 X0 hz hfl hfs hsl hr s0 c1 c2 c3 c4 ⊢
  generalize hyc2 : ys.getD 2 0 = d2 at f0 f9 X0 hz hfl hfs hsl hr s0 c1 c2 c3 c4 ⊢
  generalize hyc3 : ys.getD 3 0 = d3 at f0 f9 X0 hz hfl hfs hsl hr s0 c1 c2 c3 c4 ⊢
  have HY0 := hide hyc0
  have HY1 := hide hyc1
  have HY2 := hide hyc2
  have HY3 := hide hyc3
  clear hxa0 hxa1 hxa2 hxa3 hsb0 hsb1 hsb2 hsb3 hyc0 hyc1 hyc2 hyc3
  by_cases hlt : (ys.length : Int) < (xs.length : Int)
  · have Hn : Hid (¬ Strs xs ys) := fun q => by have := q.1; omega
    go_enter Try.func66, Try.ntmps66
    go_wp2
    have Zz := (zs (zs (zs (zs (zs (zs (zs (zs (zs (zs hr.out 0) 1) 2) 3) 4) 5) 6) 7) 8) 9)
    have e0 := Zz 0 (by omega)
    have e1 := Zz 1 (by omega)
    have e2 := Zz 2 (by omega)
    have e3 := Zz 3 (by omega)
    have e4 := Zz 4 (by omega)
    have e5 := Zz 5 (by omega)
    have e6 := Zz 6 (by omega)
    have e7 := Zz 7 (by omega)
    have e8 := Zz 8 (by omega)
    have e9 := Zz 9 (by omega)
    exact bodyPost_ret (v := .tuple #[.agg #[.int .i64 0, .int .i64 0, .int .i64 0, .int .i64 0, .int .i64 0, .int .i64 0, .int .i64 0, .int .i64 0, .int .i64 0, .int .i64 0], .bool false]) (by simp [results, Try.results66, go_sem, e0, e1, e2, e3, e4, e5, e6, e7, e8, e9]) rfl (bad_str Hn.out (by repeat (first | with_reducible exact X0.out | with_reducible refine Ext.setCell ?_ (by show w.heap.size ≤ w.heap.size + 1 + 1; omega) _)))
  · have h4' : (xs.length : Int) ≤ 4 := by omega
    obtain ⟨m, hm⟩ : ∃ m : Nat, ys.length - xs.length = m := ⟨_, rfl⟩
    have hmi : (ys.length : Int) - (xs.length : Int) = (m : Int) := by omega
    have Hm := hide hm
    clear hm
    go_enter Try.func66, Try.ntmps66
    go_wp2_with fail
    generalize hW : (((w.alloc (.cells #[.int .i64 xs.length, .int .i64 a0, .int .i64 a1, .int .i64 a2, .int .i64 a3, .int .i64 b0, .int .i64 b1, .int .i64 b2, .int .i64 b3, .int .i64 off] 64)).alloc (.cells #[.int .i64 ys.length, .int .i64 d0, .int .i64 d1, .int .i64 d2, .int .i64 d3] 62)).alloc (.cells #[.int .i64 0, .int .i64 0, .int .i64 0, .int .i64 0, .int .i64 0, .int .i64 0, .int .i64 0, .int .i64 0, .int .i64 0, .int .i64 0] 64)) = W0 at f0 f9 X0 hz hfl hfs hsl hr s0 c1 c2 c3 c4 ⊢
    clear hW
    try simp only [hmi]
    have Hmi := hide hmi
    clear hmi
    have y4 : Ext W0 (W0.alloc (.cells #[.int .i64 ys.length, .int .i64 d0, .int .i64 d1, .int .i64 d2, .int .i64 d3, .int .i64 0, .int .i64 0, .int .i64 0, .int .i64 0, .int .i64 off] 64)) := (Ext.refl W0).alloc _ _
    have n4 := fun j => new_cell W0 #[.int .i64 ys.length, .int .i64 d0, .int .i64 d1, .int .i64 d2, .int .i64 d3, .int .i64 0, .int .i64 0, .int .i64 0, .int .i64 0, .int .i64 off] 64 (w.heap.size + 1 + 1 + 1) (by rw [hz.out]) j
    have S0 : STW w (W0.alloc (.cells #[.int .i64 ys.length, .int .i64 d0, .int .i64 d1, .int .i64 d2, .int .i64 d3, .int .i64 0, .int .i64 0, .int .i64 0, .int .i64 0, .int .i64 off] 64)) (w.heap.size + 1 + 1 + 1) xs ss ys off 0 := by
      refine ⟨y4.box f0, fun j hj => y4.box (hfl.out j hj), fun j hj => y4.box (hfs.out j hj), fun j hj => y4.box (hsl.out j hj), fun j hj => y4.box (hr.out j hj), n4 0, fun j hj => ?_, fun j hj => ?_, n4 9, X0.out.trans y4⟩
      · obtain rfl | rfl | rfl | rfl : j = 0 ∨ j = 1 ∨ j = 2 ∨ j = 3 := by omega
        · rw [HY0.out]; exact n4 1
        · rw [HY1.out]; exact n4 2
        · rw [HY2.out]; exact n4 3
        · rw [HY3.out]; exact n4 4
      · have hz0 : (if j < ys.length - xs.length + 0 then (bstr xs ss ys).getD j 0 else 0) = 0 := by
          split
          · next h =>
            rw [bstr_getD, if_pos (by omega)]
            unfold strAt
            rw [if_pos (by omega)]
          · rfl
        rw [hz0]
        obtain rfl | rfl | rfl | rfl : j = 0 ∨ j = 1 ∨ j = 2 ∨ j = 3 := by omega
        · exact n4 5
        · exact n4 6
        · exact n4 7
        · exact n4 8
    have HS0 := hide S0
    have Hlt := hide hlt
    clear S0 n4 y4 f0 f9 s0 c1 c2 c3 c4 hfl hfs hsl hr X0 hz
    have HBB : Hid (w.heap.size + 2 < w.heap.size + 1 + 1 + 1) := by show w.heap.size + 2 < w.heap.size + 1 + 1 + 1; omega
    generalize hB : w.heap.size + 1 + 1 + 1 = B at HS0 HBB ⊢
    clear hB hlt
    go_loopw [34] (fun i wr => ∃ k : Nat, i = .int .i64 k ∧ k ≤ xs.length ∧ Hid (∀ j, j < k → (xs.getD j 0 = ys.getD (ys.length - xs.length + j) 0 ∨ xs.getD j 0 = 1)) ∧ STW w wr B xs ss ys off k) (fun i _ => xs.length - (intOf i).toNat)
    case atStart => exact ⟨0, rfl, by omega, fun j hj => absurd hj (Nat.not_lt_zero _), HS0.out⟩
    case round =>
      obtain ⟨k, rfl, hk, hin, hS⟩ := hrel
      have HS := hide hS
      clear hS
      by_cases hlt : k < xs.length
      · have hmy : ys.length = xs.length + m := by have := Hm.out; have := Hlt.out; omega
        obtain ⟨J, hJ⟩ : ∃ J : Nat, ys.length - xs.length + k = J := ⟨_, rfl⟩
        have hJi : (m : Int) + (k : Int) = (J : Int) := by have := Hm.out; omega
        have hJ4 : J < 4 := by omega
        have hJ44 : (J : Int) < 4 := by omega
        have hJ0 : (0 : Int) ≤ (J : Int) := Int.natCast_nonneg _
        have hk4 : k < 4 := by omega
        have hk0 : (0 : Int) ≤ (k : Int) := Int.natCast_nonneg _
        have hk1 : (k : Int) < (xs.length : Int) := by omega
        have hk44 : (k : Int) < 4 := by omega
        have q0 := HS.out.fl k hk4
        have q1 := HS.out.fs k hk4
        have q2 := HS.out.sl J hJ4
        have q3 := HS.out.os J hJ4
        have hJy : J < ys.length := by omega
        have hAt : (bstr xs ss ys).getD J 0 = if xs.getD k 0 = ys.getD J 0 then ss.getD k 0 else 0 := by
          rw [bstr_getD, if_pos hJy]
          unfold strAt
          rw [if_neg (by omega), show J - (ys.length - xs.length) = k by omega]
        rw [if_neg (by omega)] at q3
        have hstep := hide (fun v hv => HS.out.step (v := v) (by rw [hJ]; exact hJ4) HBB.out hv)
        have hskip := hide (HS.out.skip (by rw [hJ]; exact hJ4))
        rw [hJ] at hstep hskip
        have hin2 : Hid ((xs.getD k 0 = ys.getD J 0 ∨ xs.getD k 0 = 1) → ∀ j, j < k + 1 → (xs.getD j 0 = ys.getD (ys.length - xs.length + j) 0 ∨ xs.getD j 0 = 1)) := fun q j hj => by
          by_cases e : j = k
          · subst e; rw [hJ]; exact q
          · exact hin.out j (by omega)
        have hno : Hid (¬ (xs.getD k 0 = ys.getD J 0 ∨ xs.getD k 0 = 1) → ¬ Strs xs ys) := fun q g => q (by have := g.2 k hlt; rw [hJ] at this; exact this)
        rw [hAt] at hstep hskip
        clear hAt hJ hmy hJy
        generalize xs.getD k 0 = X at q0 hstep hskip hin2 hno
        generalize ys.getD J 0 = Y at q2 hstep hskip hin2 hno
        generalize ss.getD k 0 = V at q1 hstep hskip
        have sf := fun o => HS.out.ex.unfrozen (b := B) (by have := HBB.out; omega) o
        by_cases hXY : X = Y
        · subst hXY
          have HSt := hide (hstep.out V (by rw [if_pos rfl]))
          have hi3 := hide (hin2.out (Or.inl rfl))
          clear hstep hskip hin2 hno
          go_wp2
          go_roundw
          · exact ⟨k + 1, by go_num, by omega, hi3, HSt.out⟩
          · simp [intOf]; omega
        · have hne : (X == Y) = false := by simp [hXY]
          rw [if_neg hXY] at hskip
          have HSk := hide (hskip.out rfl)
          by_cases hX1 : X = 1
          · subst hX1
            have hi3 := hide (hin2.out (Or.inr rfl))
            clear hstep hskip hin2 hno hXY
            go_wp2
            go_roundw
            · exact ⟨k + 1, by go_num, by omega, hi3, HSk.out⟩
            · simp [intOf]; omega
          · have hne1 : (X != 1) = true := by simp [hX1]
            have Hno := hide (hno.out (fun q => q.elim hXY hX1))
            have rr0 := HS.out.r 0 (by omega)
            have rr1 := HS.out.r 1 (by omega)
            have rr2 := HS.out.r 2 (by omega)
            have rr3 := HS.out.r 3 (by omega)
            have rr4 := HS.out.r 4 (by omega)
            have rr5 := HS.out.r 5 (by omega)
            have rr6 := HS.out.r 6 (by omega)
            have rr7 := HS.out.r 7 (by omega)
            have rr8 := HS.out.r 8 (by omega)
            have rr9 := HS.out.r 9 (by omega)
            have rf2 := fun o => HS.out.ex.unfrozen (b := w.heap.size + 1 + 1) (by omega) o
            clear hstep hskip hin2 hno hXY hX1
            go_wp2
            have Zz := (zs (zs (zs (zs (zs (zs (zs (zs (zs (zs HS.out.r 0) 1) 2) 3) 4) 5) 6) 7) 8) 9)
            have e0 := Zz 0 (by omega)
            have e1 := Zz 1 (by omega)
            have e2 := Zz 2 (by omega)
            have e3 := Zz 3 (by omega)
            have e4 := Zz 4 (by omega)
            have e5 := Zz 5 (by omega)
            have e6 := Zz 6 (by omega)
            have e7 := Zz 7 (by omega)
            have e8 := Zz 8 (by omega)
            have e9 := Zz 9 (by omega)
            exact bodyPost_ret (v := .tuple #[.agg #[.int .i64 0, .int .i64 0, .int .i64 0, .int .i64 0, .int .i64 0, .int .i64 0, .int .i64 0, .int .i64 0, .int .i64 0, .int .i64 0], .bool false]) (by simp [results, Try.results66, go_sem, e0, e1, e2, e3, e4, e5, e6, e7, e8, e9]) rfl (bad_str Hno.out (by repeat (first | with_reducible exact HS.out.ex | with_reducible refine Ext.setCell ?_ (by show w.heap.size ≤ w.heap.size + 1 + 1; omega) _)))
      · have hkk : k = xs.length := by omega
        subst hkk
        have hst : Hid (Strs xs ys) := ⟨by have := Hlt.out; omega, fun j hj => hin.out j hj⟩
        have hsj : ∀ j, j < 4 → wr.cell? ⟨B, 5 + j, none⟩ = some (.int .i64 ((bstr xs ss ys).getD j 0)) := fun j hj => by
          rw [HS.out.os j hj]
          by_cases e : j < ys.length - xs.length + xs.length
          · rw [if_pos e]
          · rw [if_neg e, bstr_getD, if_neg (by omega)]
        have g0 := HS.out.o0
        have g1 : wr.cell? ⟨B, 1, none⟩ = _ := HS.out.ol 0 (by omega)
        have g2 : wr.cell? ⟨B, 2, none⟩ = _ := HS.out.ol 1 (by omega)
        have g3 : wr.cell? ⟨B, 3, none⟩ = _ := HS.out.ol 2 (by omega)
        have g4 : wr.cell? ⟨B, 4, none⟩ = _ := HS.out.ol 3 (by omega)
        have g5 : wr.cell? ⟨B, 5, none⟩ = _ := hsj 0 (by omega)
        have g6 : wr.cell? ⟨B, 6, none⟩ = _ := hsj 1 (by omega)
        have g7 : wr.cell? ⟨B, 7, none⟩ = _ := hsj 2 (by omega)
        have g8 : wr.cell? ⟨B, 8, none⟩ = _ := hsj 3 (by omega)
        have g9 := HS.out.o9
        clear hsj
        have rr0 := HS.out.r 0 (by omega)
        have rr1 := HS.out.r 1 (by omega)
        have rr2 := HS.out.r 2 (by omega)
        have rr3 := HS.out.r 3 (by omega)
        have rr4 := HS.out.r 4 (by omega)
        have rr5 := HS.out.r 5 (by omega)
        have rr6 := HS.out.r 6 (by omega)
        have rr7 := HS.out.r 7 (by omega)
        have rr8 := HS.out.r 8 (by omega)
        have rr9 := HS.out.r 9 (by omega)
        have rf2 := fun o => HS.out.ex.unfrozen (b := w.heap.size + 1 + 1) (by omega) o
        generalize hc0 : ys.getD 0 0 = c0 at g1
        have Hc0 := hide hc0
        clear hc0
        generalize hc1 : ys.getD 1 0 = c1 at g2
        have Hc1 := hide hc1
        clear hc1
        generalize hc2 : ys.getD 2 0 = c2 at g3
        have Hc2 := hide hc2
        clear hc2
        generalize hc3 : ys.getD 3 0 = c3 at g4
        have Hc3 := hide hc3
        clear hc3
        generalize he0 : (bstr xs ss ys).getD 0 0 = e0 at g5
        have He0 := hide he0
        clear he0
        generalize he1 : (bstr xs ss ys).getD 1 0 = e1 at g6
        have He1 := hide he1
        clear he1
        generalize he2 : (bstr xs ss ys).getD 2 0 = e2 at g7
        have He2 := hide he2
        clear he2
        generalize he3 : (bstr xs ss ys).getD 3 0 = e3 at g8
        have He3 := hide he3
        clear he3
        go_wp2
        have hy : ∀ j, j < 10 → wr.cell? ⟨w.heap.size + 1 + 1, j, none⟩ = some ((fun _ => (.int .i64 0 : Value)) j) := HS.out.r
        have Zz := (zt (zt (zt (zt (zt (zt (zt (zt (zt (zt hy 0 (.int .i64 (ys.length : Int))) 1 (.int .i64 c0)) 2 (.int .i64 c1)) 3 (.int .i64 c2)) 4 (.int .i64 c3)) 5 (.int .i64 e0)) 6 (.int .i64 e1)) 7 (.int .i64 e2)) 8 (.int .i64 e3)) 9 (.int .i64 off))
        have q0 : ((((((((((wr.setCell ⟨w.heap.size + 1 + 1, 0, none⟩ (.int .i64 (ys.length : Int))).setCell ⟨w.heap.size + 1 + 1, 1, none⟩ (.int .i64 c0)).setCell ⟨w.heap.size + 1 + 1, 2, none⟩ (.int .i64 c1)).setCell ⟨w.heap.size + 1 + 1, 3, none⟩ (.int .i64 c2)).setCell ⟨w.heap.size + 1 + 1, 4, none⟩ (.int .i64 c3)).setCell ⟨w.heap.size + 1 + 1, 5, none⟩ (.int .i64 e0)).setCell ⟨w.heap.size + 1 + 1, 6, none⟩ (.int .i64 e1)).setCell ⟨w.heap.size + 1 + 1, 7, none⟩ (.int .i64 e2)).setCell ⟨w.heap.size + 1 + 1, 8, none⟩ (.int .i64 e3)).setCell ⟨w.heap.size + 1 + 1, 9, none⟩ (.int .i64 off)).cell? ⟨w.heap.size + 1 + 1, 0, none⟩ = some (.int .i64 (ys.length : Int)) := (Zz 0 (by omega)).trans rfl
        have q1 : ((((((((((wr.setCell ⟨w.heap.size + 1 + 1, 0, none⟩ (.int .i64 (ys.length : Int))).setCell ⟨w.heap.size + 1 + 1, 1, none⟩ (.int .i64 c0)).setCell ⟨w.heap.size + 1 + 1, 2, none⟩ (.int .i64 c1)).setCell ⟨w.heap.size + 1 + 1, 3, none⟩ (.int .i64 c2)).setCell ⟨w.heap.size + 1 + 1, 4, none⟩ (.int .i64 c3)).setCell ⟨w.heap.size + 1 + 1, 5, none⟩ (.int .i64 e0)).setCell ⟨w.heap.size + 1 + 1, 6, none⟩ (.int .i64 e1)).setCell ⟨w.heap.size + 1 + 1, 7, none⟩ (.int .i64 e2)).setCell ⟨w.heap.size + 1 + 1, 8, none⟩ (.int .i64 e3)).setCell ⟨w.heap.size + 1 + 1, 9, none⟩ (.int .i64 off)).cell? ⟨w.heap.size + 1 + 1, 1, none⟩ = some (.int .i64 c0) := (Zz 1 (by omega)).trans rfl
        have q2 : ((((((((((wr.setCell ⟨w.heap.size + 1 + 1, 0, none⟩ (.int .i64 (ys.length : Int))).setCell ⟨w.heap.size + 1 + 1, 1, none⟩ (.int .i64 c0)).setCell ⟨w.heap.size + 1 + 1, 2, none⟩ (.int .i64 c1)).setCell ⟨w.heap.size + 1 + 1, 3, none⟩ (.int .i64 c2)).setCell ⟨w.heap.size + 1 + 1, 4, none⟩ (.int .i64 c3)).setCell ⟨w.heap.size + 1 + 1, 5, none⟩ (.int .i64 e0)).setCell ⟨w.heap.size + 1 + 1, 6, none⟩ (.int .i64 e1)).setCell ⟨w.heap.size + 1 + 1, 7, none⟩ (.int .i64 e2)).setCell ⟨w.heap.size + 1 + 1, 8, none⟩ (.int .i64 e3)).setCell ⟨w.heap.size + 1 + 1, 9, none⟩ (.int .i64 off)).cell? ⟨w.heap.size + 1 + 1, 2, none⟩ = some (.int .i64 c1) := (Zz 2 (by omega)).trans rfl
        have q3 : ((((((((((wr.setCell ⟨w.heap.size + 1 + 1, 0, none⟩ (.int .i64 (ys.length : Int))).setCell ⟨w.heap.size + 1 + 1, 1, none⟩ (.int .i64 c0)).setCell ⟨w.heap.size + 1 + 1, 2, none⟩ (.int .i64 c1)).setCell ⟨w.heap.size + 1 + 1, 3, none⟩ (.int .i64 c2)).setCell ⟨w.heap.size + 1 + 1, 4, none⟩ (.int .i64 c3)).setCell ⟨w.heap.size + 1 + 1, 5, none⟩ (.int .i64 e0)).setCell ⟨w.heap.size + 1 + 1, 6, none⟩ (.int .i64 e1)).setCell ⟨w.heap.size + 1 + 1, 7, none⟩ (.int .i64 e2)).setCell ⟨w.heap.size + 1 + 1, 8, none⟩ (.int .i64 e3)).setCell ⟨w.heap.size + 1 + 1, 9, none⟩ (.int .i64 off)).cell? ⟨w.heap.size + 1 + 1, 3, none⟩ = some (.int .i64 c2) := (Zz 3 (by omega)).trans rfl
        have q4 : ((((((((((wr.setCell ⟨w.heap.size + 1 + 1, 0, none⟩ (.int .i64 (ys.length : Int))).setCell ⟨w.heap.size + 1 + 1, 1, none⟩ (.int .i64 c0)).setCell ⟨w.heap.size + 1 + 1, 2, none⟩ (.int .i64 c1)).setCell ⟨w.heap.size + 1 + 1, 3, none⟩ (.int .i64 c2)).setCell ⟨w.heap.size + 1 + 1, 4, none⟩ (.int .i64 c3)).setCell ⟨w.heap.size + 1 + 1, 5, none⟩ (.int .i64 e0)).setCell ⟨w.heap.size + 1 + 1, 6, none⟩ (.int .i64 e1)).setCell ⟨w.heap.size + 1 + 1, 7, none⟩ (.int .i64 e2)).setCell ⟨w.heap.size + 1 + 1, 8, none⟩ (.int .i64 e3)).setCell ⟨w.heap.size + 1 + 1, 9, none⟩ (.int .i64 off)).cell? ⟨w.heap.size + 1 + 1, 4, none⟩ = some (.int .i64 c3) := (Zz 4 (by omega)).trans rfl
        have q5 : ((((((((((wr.setCell ⟨w.heap.size + 1 + 1, 0, none⟩ (.int .i64 (ys.length : Int))).setCell ⟨w.heap.size + 1 + 1, 1, none⟩ (.int .i64 c0)).setCell ⟨w.heap.size + 1 + 1, 2, none⟩ (.int .i64 c1)).setCell ⟨w.heap.size + 1 + 1, 3, none⟩ (.int .i64 c2)).setCell ⟨w.heap.size + 1 + 1, 4, none⟩ (.int .i64 c3)).setCell ⟨w.heap.size + 1 + 1, 5, none⟩ (.int .i64 e0)).setCell ⟨w.heap.size + 1 + 1, 6, none⟩ (.int .i64 e1)).setCell ⟨w.heap.size + 1 + 1, 7, none⟩ (.int .i64 e2)).setCell ⟨w.heap.size + 1 + 1, 8, none⟩ (.int .i64 e3)).setCell ⟨w.heap.size + 1 + 1, 9, none⟩ (.int .i64 off)).cell? ⟨w.heap.size + 1 + 1, 5, none⟩ = some (.int .i64 e0) := (Zz 5 (by omega)).trans rfl
        have q6 : ((((((((((wr.setCell ⟨w.heap.size + 1 + 1, 0, none⟩ (.int .i64 (ys.length : Int))).setCell ⟨w.heap.size + 1 + 1, 1, none⟩ (.int .i64 c0)).setCell ⟨w.heap.size + 1 + 1, 2, none⟩ (.int .i64 c1)).setCell ⟨w.heap.size + 1 + 1, 3, none⟩ (.int .i64 c2)).setCell ⟨w.heap.size + 1 + 1, 4, none⟩ (.int .i64 c3)).setCell ⟨w.heap.size + 1 + 1, 5, none⟩ (.int .i64 e0)).setCell ⟨w.heap.size + 1 + 1, 6, none⟩ (.int .i64 e1)).setCell ⟨w.heap.size + 1 + 1, 7, none⟩ (.int .i64 e2)).setCell ⟨w.heap.size + 1 + 1, 8, none⟩ (.int .i64 e3)).setCell ⟨w.heap.size + 1 + 1, 9, none⟩ (.int .i64 off)).cell? ⟨w.heap.size + 1 + 1, 6, none⟩ = some (.int .i64 e1) := (Zz 6 (by omega)).trans rfl
        have q7 : ((((((((((wr.setCell ⟨w.heap.size + 1 + 1, 0, none⟩ (.int .i64 (ys.length : Int))).setCell ⟨w.heap.size + 1 + 1, 1, none⟩ (.int .i64 c0)).setCell ⟨w.heap.size + 1 + 1, 2, none⟩ (.int .i64 c1)).setCell ⟨w.heap.size + 1 + 1, 3, none⟩ (.int .i64 c2)).setCell ⟨w.heap.size + 1 + 1, 4, none⟩ (.int .i64 c3)).setCell ⟨w.heap.size + 1 + 1, 5, none⟩ (.int .i64 e0)).setCell ⟨w.heap.size + 1 + 1, 6, none⟩ (.int .i64 e1)).setCell ⟨w.heap.size + 1 + 1, 7, none⟩ (.int .i64 e2)).setCell ⟨w.heap.size + 1 + 1, 8, none⟩ (.int .i64 e3)).setCell ⟨w.heap.size + 1 + 1, 9, none⟩ (.int .i64 off)).cell? ⟨w.heap.size + 1 + 1, 7, none⟩ = some (.int .i64 e2) := (Zz 7 (by omega)).trans rfl
        have q8 : ((((((((((wr.setCell ⟨w.heap.size + 1 + 1, 0, none⟩ (.int .i64 (ys.length : Int))).setCell ⟨w.heap.size + 1 + 1, 1, none⟩ (.int .i64 c0)).setCell ⟨w.heap.size + 1 + 1, 2, none⟩ (.int .i64 c1)).setCell ⟨w.heap.size + 1 + 1, 3, none⟩ (.int .i64 c2)).setCell ⟨w.heap.size + 1 + 1, 4, none⟩ (.int .i64 c3)).setCell ⟨w.heap.size + 1 + 1, 5, none⟩ (.int .i64 e0)).setCell ⟨w.heap.size + 1 + 1, 6, none⟩ (.int .i64 e1)).setCell ⟨w.heap.size + 1 + 1, 7, none⟩ (.int .i64 e2)).setCell ⟨w.heap.size + 1 + 1, 8, none⟩ (.int .i64 e3)).setCell ⟨w.heap.size + 1 + 1, 9, none⟩ (.int .i64 off)).cell? ⟨w.heap.size + 1 + 1, 8, none⟩ = some (.int .i64 e3) := (Zz 8 (by omega)).trans rfl
        have q9 : ((((((((((wr.setCell ⟨w.heap.size + 1 + 1, 0, none⟩ (.int .i64 (ys.length : Int))).setCell ⟨w.heap.size + 1 + 1, 1, none⟩ (.int .i64 c0)).setCell ⟨w.heap.size + 1 + 1, 2, none⟩ (.int .i64 c1)).setCell ⟨w.heap.size + 1 + 1, 3, none⟩ (.int .i64 c2)).setCell ⟨w.heap.size + 1 + 1, 4, none⟩ (.int .i64 c3)).setCell ⟨w.heap.size + 1 + 1, 5, none⟩ (.int .i64 e0)).setCell ⟨w.heap.size + 1 + 1, 6, none⟩ (.int .i64 e1)).setCell ⟨w.heap.size + 1 + 1, 7, none⟩ (.int .i64 e2)).setCell ⟨w.heap.size + 1 + 1, 8, none⟩ (.int .i64 e3)).setCell ⟨w.heap.size + 1 + 1, 9, none⟩ (.int .i64 off)).cell? ⟨w.heap.size + 1 + 1, 9, none⟩ = some (.int .i64 off) := (Zz 9 (by omega)).trans rfl
        exact bodyPost_ret (v := .tuple #[.agg #[.int .i64 (ys.length : Int), .int .i64 c0, .int .i64 c1, .int .i64 c2, .int .i64 c3, .int .i64 e0, .int .i64 e1, .int .i64 e2, .int .i64 e3, .int .i64 off], .bool true]) (by simp [results, Try.results66, go_sem, q0, q1, q2, q3, q4, q5, q6, q7, q8, q9]) rfl ⟨_, by rw [dcStrs_t hst.out], fun _ => by unfold vw; rw [Hc0.out, Hc1.out, Hc2.out, Hc3.out, He0.out, He1.out, He2.out, He3.out], ⟨_, _, _, _, _, _, _, _, _, _, rfl⟩, by repeat (first | with_reducible exact HS.out.ex | with_reducible refine Ext.setCell ?_ (by show w.heap.size ≤ w.heap.size + 1 + 1; omega) _)⟩
end Go.Proofs.Ytiekkninnjffpaa
namespace Go.Proofs.Ytiekkninnjffpaa
open Go.ChangeShapes Go.RowKit
set_option linter.unusedSimpArgs false
set_option linter.unusedVariables false

set_option maxRecDepth 100000 in
set_option maxHeartbeats 1000000 in
theorem szInts_any (sa : Option Addr) (n cap : Nat) (left : Int) (hn : n ≤ 9223372036854775807) (hl : 0 ≤ left ∧ left ≤ 1048576) (w : World) :
    Calls Try.prog 50 #[.slice sa n cap, .int .i64 left] w fun e w' => e = .returned (.int .i64 (if left - n < 0 then -1 else left - n)) ∧ w' = w := by
  by_cases h : left - (n : Int) < 0
  · rw [if_pos h]
    go_enter Try.func50, Try.ntmps50
    go_wp2
    go_ret
    exact ⟨rfl, rfl⟩
  · rw [if_neg h]
    go_enter Try.func50, Try.ntmps50
    go_wp2
    go_ret
    exact ⟨rfl, rfl⟩

set_option maxRecDepth 100000 in
set_option maxHeartbeats 2000000 in
theorem eqView_true {w : World} {v u v' u' : Value} {xs ss : List Int} (off : Int) (h : Ints w v xs) (g : Ints w u ss) (h' : Ints w v' xs) (g' : Ints w u' ss) (lx : xs.length ≤ 1048576) (ls : ss.length ≤ 1048576) :
    Calls Try.prog 17 #[.agg #[v, u, .int .i64 off], .agg #[v', u', .int .i64 off]] w fun e w' => e = .returned (.bool true) ∧ Ext w w' := by
  have x0 : Ext w ((w.alloc (.cells #[v, u, .int .i64 off] 27)).alloc (.cells #[v', u', .int .i64 off] 27)) := ((Ext.refl w).alloc _ _).alloc _ _
  have y0 : Ext (w.alloc (.cells #[v, u, .int .i64 off] 27)) ((w.alloc (.cells #[v, u, .int .i64 off] 27)).alloc (.cells #[v', u', .int .i64 off] 27)) := (Ext.refl _).alloc _ _
  have n1 := fun j => new_cell w #[v, u, .int .i64 off] 27 w.heap.size rfl j
  have n2 := fun j => new_cell (w.alloc (.cells #[v, u, .int .i64 off] 27)) #[v', u', .int .i64 off] 27 (w.heap.size + 1) (by simp) j
  have a1 := y0.box (n1 1)
  have a2 := y0.box (n1 2)
  have b1 := n2 1
  have b2 := n2 2
  have H := hide (h.ext x0)
  have G := hide (g.ext x0)
  have H' := hide (h'.ext x0)
  have G' := hide (g'.ext x0)
  have X0 := hide x0
  clear n1 n2 x0 y0
  obtain ⟨sa, ca, rfl, _⟩ := h
  obtain ⟨sb, cb, rfl, _⟩ := g
  obtain ⟨sc, cc, rfl, _⟩ := h'
  obtain ⟨sd, cd, rfl, _⟩ := g'
  go_enter Try.func17, Try.ntmps17
  go_wp2_with fail
  refine (eqInts_any H.out H'.out (by omega)).mono ?_
  rintro e w1 ⟨rfl, x1⟩
  rw [show decide (xs = xs) = true from by simp]
  have a1' := x1.box a1
  have a2' := x1.box a2
  have b1' := x1.box b1
  have b2' := x1.box b2
  have G1 := hide (G.out.ext x1)
  have G1' := hide (G'.out.ext x1)
  have X1 := hide (X0.out.trans x1)
  clear a1 a2 b1 b2 x1 H H' G G' X0
  go_wp2_with fail
  refine (eqInts_any G1.out G1'.out (by omega)).mono ?_
  rintro e w2 ⟨rfl, x2⟩
  rw [show decide (ss = ss) = true from by simp]
  have a2'' := x2.box a2'
  have b2'' := x2.box b2'
  have X2 := hide (X1.out.trans x2)
  clear x2 a1' a2' b1' b2'
  go_wp2
  go_ret
  exact ⟨rfl, X2.out⟩
end Go.Proofs.Ytiekkninnjffpaa
namespace Go.Proofs.Ytiekkninnjffpaa
open Go.ChangeShapes Go.RowKit
set_option linter.unusedSimpArgs false
set_option linter.unusedVariables false

def LawOk (w : World) (e : Ending) (w' : World) : Prop := e = .returned (.bool true) ∧ Below w.heap.size w w'

theorem rowB {w : World} {b n : Nat} {L : List Int} (h : Row w b 0 L) (hn : n = L.length) : IntsB w b (b + 1) (.slice (some ⟨b, 0, none⟩) n n) L := ⟨_, _, by rw [hn], Or.inr ⟨b, 0, rfl, Nat.le_refl _, Nat.lt_succ_self _, h⟩⟩
theorem ownB {w : World} {lo cap : Nat} {sa : Option Addr} {L : List Int} (h : OwnI w lo sa L) : IntsB w lo w.heap.size (.slice sa L.length cap) L := by
  refine ⟨sa, cap, rfl, ?_⟩
  rcases h with h | ⟨g, h1, h2, h3, _⟩
  · exact Or.inl h
  · by_cases e : L = []
    · exact Or.inl e
    · have hl : 0 < L.length := List.length_pos_iff.2 e
      exact Or.inr ⟨g, 0, h1, h2, cell_lt (h3 0 hl), h3⟩
/-- The answer of BroadcastShape, its code and list named. -/
def BS2 (w : World) (c : Int) (L : List Int) (e : Ending) (w' : World) : Prop :=
  ∃ (sa : Option Addr) (cap : Nat), e = .returned (.agg #[.int .i64 c, .slice sa L.length cap]) ∧ OwnI w' w.heap.size sa L ∧ Bel w w'
theorem bs2_of {w : World} {xs ys : List Int} {c : Int} {L : List Int} {e : Ending} {w' : World} (h : BSOk w xs ys e w') (hb : bsL xs ys = (c, L)) : BS2 w c L e w' := by
  obtain ⟨sa, cap, h1, h2, h3⟩ := h
  rw [hb] at h1 h2
  exact ⟨sa, cap, h1, h2, h3⟩
theorem bsL_len (xs ys : List Int) : (bsL xs ys).2.length ≤ 4 := by
  unfold bsL
  split
  · next h => rw [jn_len]; have := h.1.1; have := h.2.1.1; omega
  · simp

set_option maxRecDepth 100000 in
set_option maxHeartbeats 8000000 in
theorem law (w : World) (vA vB : Value) (xs ys : List Int) (hA : Ints w vA xs) (hB : Ints w vB ys) (lx : xs.length ≤ 1048576) (ly : ys.length ≤ 1048576) :
    Calls Try.prog 4 #[vA, vB] w fun e w' => LawOk w e w' := by
  obtain ⟨c, L, hcl⟩ : ∃ c L, bsL xs ys = (c, L) := ⟨_, _, rfl⟩
  have hL4 : L.length ≤ 4 := by have := bsL_len xs ys; rw [hcl] at this; exact this
  have HCL := hide hcl
  clear hcl
  have HA := hide hA.bound
  have HB := hide hB.bound
  obtain ⟨sA, cA, rfl, _⟩ := hA
  obtain ⟨sB, cB, rfl, _⟩ := hB
  have nx : ¬ (1048576 : Int) < (xs.length : Int) := by omega
  have ny : ¬ (1048576 : Int) < (ys.length : Int) := by omega
  go_enter Try.func4, Try.ntmps4
  go_wp2_with fail
  refine (toInts_any HA.out.ints lx).mono ?_
  rintro e w1 ⟨rfl, ht1, x1, s1⟩
  have HB1 := hide (HB.out.keep x1.bl)
  go_wp2_with fail
  refine (toInts_any HB1.out.ints ly).mono ?_
  rintro e w2 ⟨rfl, ht2, x2, s2⟩
  have HT1 := hide ((ht1.ext x2).ints (n := xs.length) (cap := xs.length) rfl)
  have HT2 := hide (ht2.ints (n := ys.length) (cap := ys.length) rfl)
  have Z2 := hide (x1.trans x2).bl
  clear ht1 ht2 x1 x2 HB1
  go_wp2_with fail
  refine (sBS_any HT1.out HT2.out lx ly).mono ?_
  rintro e w3 h3
  obtain ⟨sw, cw, rfl, ow, b3⟩ := bs2_of h3 HCL.out
  clear h3 HT1 HT2
  have y3 : Bel w3 (w3.alloc (.cells #[.int .i64 c, .slice sw L.length cw] 32)) := ((Ext.refl w3).alloc _ _).bl
  have n3 := fun j => new_cell w3 #[.int .i64 c, .slice sw L.length cw] 32 w3.heap.size rfl j
  have kw0 := n3 0
  have kw1 := n3 1
  have IW := hide ((ownB (cap := cw) ow).keep y3)
  have Z3 := hide ((Bel.tr Z2.out b3).tr y3)
  have HA3 := hide (HA.out.keep Z3.out)
  have HB3 := hide (HB.out.keep Z3.out)
  have sz3 : Hid (w.heap.size ≤ w2.heap.size ∧ w2.heap.size ≤ w3.heap.size ∧ (w3.alloc (.cells #[.int .i64 c, .slice sw L.length cw] 32)).heap.size = w3.heap.size + 1) := ⟨Below.size Z2.out, Below.size b3, by simp⟩
  clear n3 y3 ow b3 HA HB Z2 s1 s2
  go_wp2_with fail
  generalize hW3 : w3.alloc (.cells #[.int .i64 c, .slice sw L.length cw] 32) = W3 at kw0 kw1 IW Z3 HA3 HB3 sz3 ⊢
  clear hW3
  refine (toInts_any HA3.out.ints lx).mono ?_
  rintro e w4 ⟨rfl, ht4, x4, s4⟩
  have HB4 := hide (HB3.out.keep x4.bl)
  go_wp2_with fail
  refine (toInts_any HB4.out.ints ly).mono ?_
  rintro e w5 ⟨rfl, ht5, x5, s5⟩
  have IX0 := hide (rowB (ht4.ext x5) (n := xs.length) rfl)
  have IX1 := hide (rowB ht5 (n := ys.length) rfl)
  have fX0 := fun o => (x4.trans x5).unfrozen (b := W3.heap.size) (Nat.le_refl _) o
  have fX1 := fun o => x5.unfrozen (b := w4.heap.size) (Nat.le_refl _) o
  have x45 := (x4.trans x5).bl
  have sz5 : Hid (W3.heap.size < w4.heap.size ∧ w4.heap.size < w5.heap.size) := ⟨s4, s5⟩
  clear ht4 ht5 x4 x5 s4 s5 HB4
  go_wp2_with fail
  refine (iBS_any IX0.out.ints IX1.out.ints lx ly).mono ?_
  rintro e w6 h6
  obtain ⟨sg, cg, rfl, og, b6⟩ := bs2_of h6 HCL.out
  clear h6
  have y6 : Bel w6 (w6.alloc (.cells #[.int .i64 c, .slice sg L.length cg] 32)) := ((Ext.refl w6).alloc _ _).bl
  have n6 := fun j => new_cell w6 #[.int .i64 c, .slice sg L.length cg] 32 w6.heap.size rfl j
  have kg0 := n6 0
  have kg1 := n6 1
  have IG := hide ((ownB (cap := cg) og).keep y6)
  have b56 := Bel.tr b6 y6
  have b36 := Bel.tr x45 b56
  have FX0 := hide (FZ.keep (L := xs) (Or.inr ⟨W3.heap.size, 0, xs.length, xs.length, rfl, by have := sz5.out; omega, fX0⟩) b56)
  have FX1 := hide (FZ.keep (L := ys) (Or.inr ⟨w4.heap.size, 0, ys.length, ys.length, rfl, by have := sz5.out; omega, fX1⟩) b56)
  have fg : FZ w6 (.slice sg L.length cg) L := by
    rcases og with h | ⟨g, h1, h2, h3, h4⟩
    · exact Or.inl h
    · by_cases e : L = []
      · exact Or.inl e
      · have hl : 0 < L.length := List.length_pos_iff.2 e
        exact Or.inr ⟨g, 0, _, _, by rw [h1], cell_lt (h3 0 hl), h4⟩
  have FG := hide (fg.keep y6)
  have jw0 := b36.box kw0
  have jw1 := b36.box kw1
  have IW6 := hide (IW.out.keep b36)
  have JX0 := hide (IX0.out.keep b56)
  have JX1 := hide (IX1.out.keep b56)
  have Z6 := hide (Z3.out.tr b36)
  have HA6 := hide (HA3.out.keep b36)
  have HB6 := hide (HB3.out.keep b36)
  have sz6 : Hid (w5.heap.size ≤ w6.heap.size ∧ (w6.alloc (.cells #[.int .i64 c, .slice sg L.length cg] 32)).heap.size = w6.heap.size + 1) := ⟨Below.size b6, by simp⟩
  clear fg n6 y6 og b6 b56 b36 x45 fX0 fX1 kw0 kw1 IW IX0 IX1 Z3 HA3 HB3
  go_wp2_with fail
  generalize hW6 : w6.alloc (.cells #[.int .i64 c, .slice sg L.length cg] 32) = W6 at jw0 jw1 kg0 kg1 IW6 IG FG JX0 JX1 FX0 FX1 Z6 HA6 HB6 sz6 ⊢
  clear hW6
  have akw0 := jw0
  have akw1 := jw1
  have akg0 := kg0
  have akg1 := kg1
  have aIW := IW6
  have aIG := IG
  have aFG := FG
  have aX0 := JX0
  have aX1 := JX1
  have aF0 := FX0
  have aF1 := FX1
  have aA := HA6
  have aB := HB6
  have aZ := Z6
  have aS := hide (Nat.le_of_eq sz6.out.2.symm)
  clear jw0 jw1 kg0 kg1 IW6 IG FG JX0 JX1 FX0 FX1 HA6 HB6 Z6
  refine (eqSR_true aIG.out.ints aIW.out.ints (by omega)).mono ?_
  rintro e w7 ⟨rfl, x7⟩
  have bkw0 := Bel.box (x7.bl) akw0
  have bkw1 := Bel.box (x7.bl) akw1
  have bkg0 := Bel.box (x7.bl) akg0
  have bkg1 := Bel.box (x7.bl) akg1
  have bIW := hide (aIW.out.keep (x7.bl))
  have bIG := hide (aIG.out.keep (x7.bl))
  have bFG := hide (aFG.out.keep (x7.bl))
  have bX0 := hide (aX0.out.keep (x7.bl))
  have bX1 := hide (aX1.out.keep (x7.bl))
  have bF0 := hide (aF0.out.keep (x7.bl))
  have bF1 := hide (aF1.out.keep (x7.bl))
  have bA := hide (aA.out.keep (x7.bl))
  have bB := hide (aB.out.keep (x7.bl))
  have bZ := hide (Below.trans aZ.out (Below.mono (x7.bl) (Below.size aZ.out)))
  have bS := hide (Nat.le_trans aS.out (Below.size (x7.bl)))
  clear akw0 akw1 akg0 akg1 aIW aIG aFG aX0 aX1 aF0 aF1 aA aB aZ aS
  clear x7
  go_wp2_with fail
  refine (toInts_any bA.out.ints lx).mono ?_
  rintro e w8 ⟨rfl, h8, x8, _⟩
  have H8 := hide (h8.ints (n := xs.length) (cap := xs.length) rfl)
  clear h8
  have ckw0 := Bel.box (x8.bl) bkw0
  have ckw1 := Bel.box (x8.bl) bkw1
  have ckg0 := Bel.box (x8.bl) bkg0
  have ckg1 := Bel.box (x8.bl) bkg1
  have cIW := hide (bIW.out.keep (x8.bl))
  have cIG := hide (bIG.out.keep (x8.bl))
  have cFG := hide (bFG.out.keep (x8.bl))
  have cX0 := hide (bX0.out.keep (x8.bl))
  have cX1 := hide (bX1.out.keep (x8.bl))
  have cF0 := hide (bF0.out.keep (x8.bl))
  have cF1 := hide (bF1.out.keep (x8.bl))
  have cA := hide (bA.out.keep (x8.bl))
  have cB := hide (bB.out.keep (x8.bl))
  have cZ := hide (Below.trans bZ.out (Below.mono (x8.bl) (Below.size bZ.out)))
  have cS := hide (Nat.le_trans bS.out (Below.size (x8.bl)))
  clear bkw0 bkw1 bkg0 bkg1 bIW bIG bFG bX0 bX1 bF0 bF1 bA bB bZ bS
  clear x8
  go_wp2_with fail
  refine (eqInts_any cX0.out.ints H8.out (by omega)).mono ?_
  rintro e w9 ⟨rfl, x9⟩
  rw [show decide (xs = xs) = true from by simp]
  clear H8
  have dkw0 := Bel.box (x9.bl) ckw0
  have dkw1 := Bel.box (x9.bl) ckw1
  have dkg0 := Bel.box (x9.bl) ckg0
  have dkg1 := Bel.box (x9.bl) ckg1
  have dIW := hide (cIW.out.keep (x9.bl))
  have dIG := hide (cIG.out.keep (x9.bl))
  have dFG := hide (cFG.out.keep (x9.bl))
  have dX0 := hide (cX0.out.keep (x9.bl))
  have dX1 := hide (cX1.out.keep (x9.bl))
  have dF0 := hide (cF0.out.keep (x9.bl))
  have dF1 := hide (cF1.out.keep (x9.bl))
  have dA := hide (cA.out.keep (x9.bl))
  have dB := hide (cB.out.keep (x9.bl))
  have dZ := hide (Below.trans cZ.out (Below.mono (x9.bl) (Below.size cZ.out)))
  have dS := hide (Nat.le_trans cS.out (Below.size (x9.bl)))
  clear ckw0 ckw1 ckg0 ckg1 cIW cIG cFG cX0 cX1 cF0 cF1 cA cB cZ cS
  clear x9
  go_wp2_with fail
  refine (toInts_any dB.out.ints ly).mono ?_
  rintro e w10 ⟨rfl, h10, x10, _⟩
  have H10 := hide (h10.ints (n := ys.length) (cap := ys.length) rfl)
  clear h10
  have fkw0 := Bel.box (x10.bl) dkw0
  have fkw1 := Bel.box (x10.bl) dkw1
  have fkg0 := Bel.box (x10.bl) dkg0
  have fkg1 := Bel.box (x10.bl) dkg1
  have fIW := hide (dIW.out.keep (x10.bl))
  have fIG := hide (dIG.out.keep (x10.bl))
  have fFG := hide (dFG.out.keep (x10.bl))
  have fX0 := hide (dX0.out.keep (x10.bl))
  have fX1 := hide (dX1.out.keep (x10.bl))
  have fF0 := hide (dF0.out.keep (x10.bl))
  have fF1 := hide (dF1.out.keep (x10.bl))
  have fA := hide (dA.out.keep (x10.bl))
  have fB := hide (dB.out.keep (x10.bl))
  have fZ := hide (Below.trans dZ.out (Below.mono (x10.bl) (Below.size dZ.out)))
  have fS := hide (Nat.le_trans dS.out (Below.size (x10.bl)))
  clear dkw0 dkw1 dkg0 dkg1 dIW dIG dFG dX0 dX1 dF0 dF1 dA dB dZ dS
  clear x10
  go_wp2_with fail
  refine (eqInts_any fX1.out.ints H10.out (by omega)).mono ?_
  rintro e w11 ⟨rfl, x11⟩
  rw [show decide (ys = ys) = true from by simp]
  clear H10
  have gkw0 := Bel.box (x11.bl) fkw0
  have gkw1 := Bel.box (x11.bl) fkw1
  have gkg0 := Bel.box (x11.bl) fkg0
  have gkg1 := Bel.box (x11.bl) fkg1
  have gIW := hide (fIW.out.keep (x11.bl))
  have gIG := hide (fIG.out.keep (x11.bl))
  have gFG := hide (fFG.out.keep (x11.bl))
  have gX0 := hide (fX0.out.keep (x11.bl))
  have gX1 := hide (fX1.out.keep (x11.bl))
  have gF0 := hide (fF0.out.keep (x11.bl))
  have gF1 := hide (fF1.out.keep (x11.bl))
  have gA := hide (fA.out.keep (x11.bl))
  have gB := hide (fB.out.keep (x11.bl))
  have gZ := hide (Below.trans fZ.out (Below.mono (x11.bl) (Below.size fZ.out)))
  have gS := hide (Nat.le_trans fS.out (Below.size (x11.bl)))
  clear fkw0 fkw1 fkg0 fkg1 fIW fIG fFG fX0 fX1 fF0 fF1 fA fB fZ fS
  clear x11
  have hsz : Hid (w.heap.size ≤ w2.heap.size ∧ w2.heap.size ≤ w3.heap.size ∧ W3.heap.size = w3.heap.size + 1 ∧ W3.heap.size < w4.heap.size ∧ w4.heap.size < w5.heap.size ∧ w5.heap.size ≤ w6.heap.size ∧ w6.heap.size + 1 ≤ w11.heap.size) := ⟨sz3.out.1, sz3.out.2.1, sz3.out.2.2, sz5.out.1, sz5.out.2, sz6.out.1, gS.out⟩
  clear sz3 sz5 sz6
  go_wp2_with fail
  refine (markB2 gX0.out gF0.out (by have := hsz.out; omega) 1 (by omega) (by omega)).mono ?_
  rintro e w12 ⟨rfl, hm12, m12⟩
  clear hm12
  have hkw0 := (m12).box _ _ _ (by have := hsz.out; omega) gkw0
  have hkw1 := (m12).box _ _ _ (by have := hsz.out; omega) gkw1
  have hkg0 := (m12).box _ _ _ (by have := hsz.out; omega) gkg0
  have hkg1 := (m12).box _ _ _ (by have := hsz.out; omega) gkg1
  have hIW := hide (gIW.out.mIn (m12) (by have := hsz.out; omega))
  have hIG := hide (gIG.out.mIn (m12) (by have := hsz.out; omega))
  have hX1 := hide (gX1.out.mIn (m12) (by have := hsz.out; omega))
  have hA := hide (gA.out.mIn (m12) (by have := hsz.out; omega))
  have hB := hide (gB.out.mIn (m12) (by have := hsz.out; omega))
  have hFG := hide (gFG.out.mIn (m12))
  have hF0 := hide (gF0.out.mIn (m12))
  have hF1 := hide (gF1.out.mIn (m12))
  have hZ := hide (Below.trans gZ.out (Below.mono m12.bl (by have := hsz.out; omega)))
  have hS := hide (Nat.le_trans gS.out (Below.size m12.bl))
  clear m12 gkw0 gkw1 gkg0 gkg1 gIW gIG gX0 gX1 gA gB gFG gF0 gF1 gZ gS
  go_wp2_with fail
  refine (markB2 hX1.out hF1.out (by have := hsz.out; have := hS.out; omega) (1 + xs.length) (by omega) (by omega)).mono ?_
  rintro e w13 ⟨rfl, hm13, m13⟩
  clear hm13 hX1 hF1 hF0
  have ikw0 := (m13).box _ _ _ (by have := hsz.out; omega) hkw0
  have ikw1 := (m13).box _ _ _ (by have := hsz.out; omega) hkw1
  have ikg0 := (m13).box _ _ _ (by have := hsz.out; omega) hkg0
  have ikg1 := (m13).box _ _ _ (by have := hsz.out; omega) hkg1
  have iIW := hide (hIW.out.mIn (m13) (by have := hsz.out; omega))
  have iIG := hide (hIG.out.mIn (m13) (by have := hsz.out; omega))
  have iA := hide (hA.out.mIn (m13) (by have := hsz.out; omega))
  have iB := hide (hB.out.mIn (m13) (by have := hsz.out; omega))
  have iFG := hide (hFG.out.mIn (m13))
  have iZ := hide (Below.trans hZ.out (Below.mono (m13).bl (by have := hsz.out; omega)))
  have iS := hide (Nat.le_trans hS.out (Below.size (m13).bl))
  clear hkw0 hkw1 hkg0 hkg1 hIW hIG hA hB hFG hZ hS
  clear m13
  have hk : ¬ (1 + (xs.length : Int) + (ys.length : Int)) < 0 := by omega
  go_wp2_with fail
  refine (eqSR_true iIG.out.ints iIW.out.ints (by omega)).mono ?_
  rintro e w14 ⟨rfl, x14⟩
  have jkw0 := Bel.box (x14.bl) ikw0
  have jkw1 := Bel.box (x14.bl) ikw1
  have jkg0 := Bel.box (x14.bl) ikg0
  have jkg1 := Bel.box (x14.bl) ikg1
  have jIW := hide (iIW.out.keep (x14.bl))
  have jIG := hide (iIG.out.keep (x14.bl))
  have jA := hide (iA.out.keep (x14.bl))
  have jB := hide (iB.out.keep (x14.bl))
  have jFG := hide (iFG.out.keep (x14.bl))
  have jZ := hide (Below.trans iZ.out (Below.mono (x14.bl) (Below.size iZ.out)))
  have jS := hide (Nat.le_trans iS.out (Below.size (x14.bl)))
  clear ikw0 ikw1 ikg0 ikg1 iIW iIG iA iB iFG iZ iS
  clear x14
  go_wp2_with fail
  refine (markSR2 jIG.out jFG.out (by have := hsz.out; have := jS.out; omega) (by have := hsz.out; have := jS.out; omega) (by omega)).mono ?_
  rintro e w15 ⟨rfl, hm15, m15⟩
  have HM := hide hm15
  clear hm15 jFG
  have kkw0 := (m15).box _ _ _ (by have := hsz.out; omega) jkw0
  have kkw1 := (m15).box _ _ _ (by have := hsz.out; omega) jkw1
  have kkg0 := (m15).box _ _ _ (by have := hsz.out; omega) jkg0
  have kkg1 := (m15).box _ _ _ (by have := hsz.out; omega) jkg1
  have kIW := hide (jIW.out.mIn (m15) (by have := hsz.out; omega))
  have kA := hide (jA.out.mIn (m15) (by have := hsz.out; omega))
  have kB := hide (jB.out.mIn (m15) (by have := hsz.out; omega))
  have kZ := hide (Below.trans jZ.out (Below.mono (m15).bl (by have := hsz.out; omega)))
  have kS := hide (Nat.le_trans jS.out (Below.size (m15).bl))
  clear jkw0 jkw1 jkg0 jkg1 jIW jA jB jIG jZ jS
  clear m15
  go_wp2_with fail
  refine (heldSR_any HM.out.ints (by omega)).mono ?_
  rintro e w16 ⟨rfl, x16⟩
  have lkw0 := Bel.box (x16.bl) kkw0
  have lkw1 := Bel.box (x16.bl) kkw1
  have lIW := hide (kIW.out.keep (x16.bl))
  have lA := hide (kA.out.keep (x16.bl))
  have lB := hide (kB.out.keep (x16.bl))
  have lZ := hide (Below.trans kZ.out (Below.mono (x16.bl) (Below.size kZ.out)))
  have lS := hide (Nat.le_trans kS.out (Below.size (x16.bl)))
  clear kkw0 kkw1 kIW kA kB kZ kS
  clear x16 HM kkg0 kkg1
  have hq : ¬ (1 + (L.length : Int)) < 0 := by omega
  go_wp2_with fail
  refine (toInts_any lA.out.ints lx).mono ?_
  rintro e w17 ⟨rfl, h17, x17, _⟩
  have mkw0 := Bel.box (x17.bl) lkw0
  have mkw1 := Bel.box (x17.bl) lkw1
  have mIW := hide (lIW.out.keep (x17.bl))
  have mA := hide (lA.out.keep (x17.bl))
  have mB := hide (lB.out.keep (x17.bl))
  have mZ := hide (Below.trans lZ.out (Below.mono (x17.bl) (Below.size lZ.out)))
  have mS := hide (Nat.le_trans lS.out (Below.size (x17.bl)))
  clear lkw0 lkw1 lIW lA lB lZ lS
  go_wp2_with fail
  refine (toInts_any mB.out.ints ly).mono ?_
  rintro e w18 ⟨rfl, h18, x18, _⟩
  have H17 := hide ((h17.ext x18).ints (n := xs.length) (cap := xs.length) rfl)
  have H18 := hide (h18.ints (n := ys.length) (cap := ys.length) rfl)
  clear h17 h18 x17
  have nkw0 := Bel.box (x18.bl) mkw0
  have nkw1 := Bel.box (x18.bl) mkw1
  have nIW := hide (mIW.out.keep (x18.bl))
  have nZ := hide (Below.trans mZ.out (Below.mono (x18.bl) (Below.size mZ.out)))
  have nS := hide (Nat.le_trans mS.out (Below.size (x18.bl)))
  clear mkw0 mkw1 mIW mZ mS
  clear x18 mA mB
  go_wp2_with fail
  refine (iBS_any H17.out H18.out lx ly).mono ?_
  rintro e w19 h19
  obtain ⟨sh, ch, rfl, oh, b19⟩ := bs2_of h19 HCL.out
  clear h19 H17 H18
  have y19 : Bel w19 (w19.alloc (.cells #[.int .i64 c, .slice sh L.length ch] 32)) := ((Ext.refl w19).alloc _ _).bl
  have n19 := fun j => new_cell w19 #[.int .i64 c, .slice sh L.length ch] 32 w19.heap.size rfl j
  have kh0 := n19 0
  have kh1 := n19 1
  have IH := hide ((ownB (cap := ch) oh).keep y19)
  have bb := Bel.tr b19 y19
  have okw0 := Bel.box (bb) nkw0
  have okw1 := Bel.box (bb) nkw1
  have oIW := hide (nIW.out.keep (bb))
  have oZ := hide (Below.trans nZ.out (Below.mono (bb) (Below.size nZ.out)))
  have oS := hide (Nat.le_trans nS.out (Below.size (bb)))
  clear nkw0 nkw1 nIW nZ nS
  clear n19 y19 oh b19 bb
  go_wp2_with fail
  refine (eqSR_true IH.out.ints oIW.out.ints (by omega)).mono ?_
  rintro e w20 ⟨rfl, x20⟩
  have ZZ := hide (Below.trans oZ.out (Below.mono x20.bl (Below.size oZ.out)))
  clear x20
  go_wp2
  go_ret
  exact ⟨rfl, ZZ.out⟩
end Go.Proofs.Ytiekkninnjffpaa
