import Derived.Test.YtiekkninnjffpaaSpecVV
import Derived.Deep.RegionWith
namespace Go.Proofs.Ytiekkninnjffpaa
open Go.ChangeShapes Go.RowKit
set_option linter.unusedSimpArgs false
set_option linter.unusedVariables false

/-- A view as the program keeps it. -/
def vw (xs ss : List Int) (off : Int) : Array Value := #[.int .i64 xs.length, .int .i64 (xs.getD 0 0), .int .i64 (xs.getD 1 0), .int .i64 (xs.getD 2 0), .int .i64 (xs.getD 3 0), .int .i64 (ss.getD 0 0), .int .i64 (ss.getD 1 0), .int .i64 (ss.getD 2 0), .int .i64 (ss.getD 3 0), .int .i64 off]

def inB (xs ss : List Int) (off : Int) : Bool := decide (prod xs = 0 ∨ (0 ≤ least xs ss off ∧ most xs ss off < 4096))

theorem least_snoc : ∀ (xs ss : List Int) (n s a : Int), xs.length = ss.length → least (xs ++ [n]) (ss ++ [s]) a = least xs ss a + min (s * (n - 1)) 0
  | [], [], n, s, a, _ => by simp [least]
  | [], _ :: _, n, s, a, h => by simp at h
  | _ :: _, [], n, s, a, h => by simp at h
  | m :: ms, t :: ts, n, s, a, h => by
    simp only [List.cons_append, least]
    exact least_snoc ms ts n s _ (by simpa using h)
theorem most_snoc : ∀ (xs ss : List Int) (n s a : Int), xs.length = ss.length → most (xs ++ [n]) (ss ++ [s]) a = most xs ss a + max (s * (n - 1)) 0
  | [], [], n, s, a, _ => by simp [most]
  | [], _ :: _, n, s, a, h => by simp at h
  | _ :: _, [], n, s, a, h => by simp at h
  | m :: ms, t :: ts, n, s, a, h => by
    simp only [List.cons_append, most]
    exact most_snoc ms ts n s _ (by simpa using h)
theorem take_snoc (xs : List Int) (k : Nat) (hk : k < xs.length) : xs.take (k + 1) = xs.take k ++ [xs.getD k 0] := by
  rw [List.take_add_one, List.getElem?_eq_getElem hk, List.getD_eq_getElem?_getD, List.getElem?_eq_getElem hk]; rfl
theorem least_take (xs ss : List Int) (off : Int) (k : Nat) (hk : k < xs.length) (hl : ss.length = xs.length) :
    least (xs.take (k + 1)) (ss.take (k + 1)) off = least (xs.take k) (ss.take k) off + min (ss.getD k 0 * (xs.getD k 0 - 1)) 0 := by
  rw [take_snoc xs k hk, take_snoc ss k (by omega), least_snoc _ _ _ _ _ (by simp; omega)]
theorem most_take (xs ss : List Int) (off : Int) (k : Nat) (hk : k < xs.length) (hl : ss.length = xs.length) :
    most (xs.take (k + 1)) (ss.take (k + 1)) off = most (xs.take k) (ss.take k) off + max (ss.getD k 0 * (xs.getD k 0 - 1)) 0 := by
  rw [take_snoc xs k hk, take_snoc ss k (by omega), most_snoc _ _ _ _ _ (by simp; omega)]
theorem far_bd {n s : Int} (hn : 0 ≤ n ∧ n ≤ 4096) (hs : -4096 ≤ s ∧ s ≤ 4096) : -16777216 ≤ s * (n - 1) ∧ s * (n - 1) ≤ 16777216 := by
  by_cases h : n = 0
  · subst h; omega
  · have := mul_between (n - 1) 4096 s (by omega) (by omega)
    rw [Int.mul_comm s (n - 1)]
    omega
theorem ends_bd (xs ss : List Int) (off : Int) (hl : ss.length = xs.length) (hr : InR xs xs.length) (hs : InS ss ss.length) (ho : 0 ≤ off ∧ off ≤ 4096) :
    ∀ k, k ≤ xs.length → (-((k : Int) * 16777216) ≤ least (xs.take k) (ss.take k) off ∧ least (xs.take k) (ss.take k) off ≤ 4096 ∧ 0 ≤ most (xs.take k) (ss.take k) off ∧ most (xs.take k) (ss.take k) off ≤ 4096 + (k : Int) * 16777216)
  | 0, _ => by simp [least, most]; omega
  | k + 1, hk => by
    have ih := ends_bd xs ss off hl hr hs ho k (by omega)
    rw [least_take xs ss off k (by omega) hl, most_take xs ss off k (by omega) hl]
    have := far_bd (hr k (by omega)) (hs k (by omega))
    omega

set_option maxRecDepth 100000 in
set_option maxHeartbeats 2000000 in
theorem within_any (w : World) (xs ss : List Int) (off : Int) (h4 : xs.length ≤ 4) (hr : InR xs xs.length) (hl : ss.length = xs.length) (hs : InS ss ss.length) (ho : 0 ≤ off ∧ off ≤ 4096) :
    Calls Try.prog 79 #[.agg (vw xs ss off), .int .i64 4096] w fun e w' => e = .returned (.bool (inB xs ss off)) ∧ Ext w w' := by
  have hcnt := hide (fun W => count_any W xs h4 hr)
  have x0 : Ext w ((w.alloc (.cells (vw xs ss off) 64)).alloc (.cells (shp xs) 62)) := ((Ext.refl w).alloc _ _).alloc _ _
  have y0 : Ext (w.alloc (.cells (vw xs ss off) 64)) ((w.alloc (.cells (vw xs ss off) 64)).alloc (.cells (shp xs) 62)) := (Ext.refl _).alloc _ _
  have n1 := fun j => new_cell w (vw xs ss off) 64 w.heap.size rfl j
  have f0 := y0.box (n1 0)
  have f9 := y0.box (n1 9)
  have fl : ∀ j, j < 4 → ((w.alloc (.cells (vw xs ss off) 64)).alloc (.cells (shp xs) 62)).cell? ⟨w.heap.size, 1 + j, none⟩ = some (.int .i64 (xs.getD j 0)) := fun j hj => by
    obtain rfl | rfl | rfl | rfl : j = 0 ∨ j = 1 ∨ j = 2 ∨ j = 3 := by omega
    exact y0.box (n1 1)
    exact y0.box (n1 2)
    exact y0.box (n1 3)
    exact y0.box (n1 4)
  have fs : ∀ j, j < 4 → ((w.alloc (.cells (vw xs ss off) 64)).alloc (.cells (shp xs) 62)).cell? ⟨w.heap.size, 5 + j, none⟩ = some (.int .i64 (ss.getD j 0)) := fun j hj => by
    obtain rfl | rfl | rfl | rfl : j = 0 ∨ j = 1 ∨ j = 2 ∨ j = 3 := by omega
    exact y0.box (n1 5)
    exact y0.box (n1 6)
    exact y0.box (n1 7)
    exact y0.box (n1 8)
  have X0 := hide x0
  have FL := hide fl
  have FxS' := hide fs
  clear x0 y0 n1 fl fs
  unfold shp vw at *
  generalize xs.getD 0 0 = a0 at *
  generalize xs.getD 1 0 = a1 at *
  generalize xs.getD 2 0 = a2 at *
  generalize xs.getD 3 0 = a3 at *
  generalize ss.getD 0 0 = b0 at *
  generalize ss.getD 1 0 = b1 at *
  generalize ss.getD 2 0 = b2 at *
  generalize ss.getD 3 0 = b3 at *
  have h4' : (xs.length : Int) ≤ 4 := by omega
  have Hl := hide hl
  have HR := hide hr
  have HS := hide hs
  clear hl hr hs
  go_enter Try.func79, Try.ntmps79
  go_wp2_with fail
  refine (hcnt.out _).mono ?_
  rintro e w1 ⟨rfl, rfl⟩
  by_cases hp : prod xs = 0
  · have hyes : Hid (inB xs ss off = true) := decide_eq_true (Or.inl hp)
    rw [hp]
    go_wp2
    go_ret
    exact ⟨ret_bool hyes.out.symm, X0.out⟩
  · have hpn : (prod xs == 0) = false := by simp [hp]
    have hin : Hid (inB xs ss off = decide (0 ≤ least xs ss off ∧ most xs ss off < 4096)) := decide_eq_decide.2 ⟨fun q => q.resolve_left hp, Or.inr⟩
    generalize prod xs = P at hpn ⊢
    go_wp2_with fail
    generalize hW1 : (w.alloc (.cells #[.int .i64 xs.length, .int .i64 a0, .int .i64 a1, .int .i64 a2, .int .i64 a3, .int .i64 b0, .int .i64 b1, .int .i64 b2, .int .i64 b3, .int .i64 off] 64)).alloc (.cells #[.int .i64 xs.length, .int .i64 a0, .int .i64 a1, .int .i64 a2, .int .i64 a3] 62) = W1 at X0 FL FxS' f0 f9 ⊢
    clear hW1
    have g0 : W1.cell? ⟨w.heap.size, 0, none⟩ = some (.int .i64 xs.length) := f0
    have g9 : W1.cell? ⟨w.heap.size, 9, none⟩ = some (.int .i64 off) := f9
    clear f0 f9
    go_region
    all_goals go_wp2
    go_loopw [5, 6, 24] (fun a b i wr => ∃ k : Nat, i = .int .i64 k ∧ a = .int .i64 (least (xs.take k) (ss.take k) off) ∧ b = .int .i64 (most (xs.take k) (ss.take k) off) ∧ k ≤ xs.length ∧ Ext W1 wr) (fun a b i _ => xs.length - (intOf i).toNat)
    case atStart => exact ⟨0, rfl, by simp [least], by simp [most], by omega, (Ext.refl W1).drew⟩
    case round =>
      obtain ⟨k, rfl, rfl, rfl, hk, hx⟩ := hrel
      have HX := hide hx
      clear hx
      have hb := ends_bd xs ss off Hl.out HR.out HS.out ho k hk
      have hk4 : (k : Int) * 16777216 ≤ 67108864 := by omega
      by_cases hlt : k < xs.length
      · have q0 := HX.out.box (FL.out k (by omega))
        have q1 := HX.out.box (FxS'.out k (by omega))
        have hk0 : (0 : Int) ≤ (k : Int) := Int.natCast_nonneg _
        have hk1 : (k : Int) < (xs.length : Int) := by omega
        have hk44 : (k : Int) < 4 := by omega
        have hlt1 := least_take xs ss off k hlt Hl.out
        have hmt1 := most_take xs ss off k hlt Hl.out
        have hfar := far_bd (HR.out k hlt) (HS.out k (by have := Hl.out; omega))
        have hnr := HR.out k hlt
        generalize xs.getD k 0 = n at q0 hlt1 hmt1 hfar hnr
        generalize ss.getD k 0 = s at q1 hlt1 hmt1 hfar
        generalize hA : least (xs.take (k + 1)) (ss.take (k + 1)) off = A at hlt1
        generalize hB : most (xs.take (k + 1)) (ss.take (k + 1)) off = B at hmt1
        generalize least (xs.take k) (ss.take k) off = a at hlt1 hb ⊢
        generalize most (xs.take k) (ss.take k) off = b at hmt1 hb ⊢
        have HA := hide hA
        have HB := hide hB
        clear hA hB
        subst hlt1
        subst hmt1
        go_wp2
        refine ⟨⟨k + 1, by go_num, ?_, ?_, by omega, HX.out⟩, by simp [intOf]; omega⟩
        · rw [HA.out]
          have e : (if 0 < s * (n - 1) then 0 else s * (n - 1)) = min (s * (n - 1)) 0 := by split <;> omega
          rw [e]
        · rw [HB.out]
          have e : (if s * (n - 1) < 0 then 0 else s * (n - 1)) = max (s * (n - 1)) 0 := by split <;> omega
          rw [e]
      · have hkk : k = xs.length := by omega
        subst hkk
        have e1 : xs.take xs.length = xs := List.take_length
        have e2 : ss.take xs.length = ss := List.take_of_length_le (by have := Hl.out; omega)
        rw [e1, e2]
        clear hb e1 e2
        generalize least xs ss off = a at hin ⊢
        generalize most xs ss off = b at hin ⊢
        by_cases ha : 0 ≤ a
        · by_cases hb : b < 4096
          · have hv : Hid (inB xs ss off = true) := by show inB xs ss off = true; rw [hin.out]; exact decide_eq_true ⟨ha, hb⟩
            go_wp2
            go_ret
            exact ⟨by rw [hv.out]; first | rfl | simp [ha, hb], X0.out.trans HX.out⟩
          · have hv : Hid (inB xs ss off = false) := by show inB xs ss off = false; rw [hin.out]; exact decide_eq_false (fun q => hb q.2)
            go_wp2
            go_ret
            exact ⟨by rw [hv.out]; first | rfl | simp [ha, hb], X0.out.trans HX.out⟩
        · have hv : Hid (inB xs ss off = false) := by show inB xs ss off = false; rw [hin.out]; exact decide_eq_false (fun q => ha q.1)
          go_wp2
          go_ret
          exact ⟨by rw [hv.out]; first | rfl | simp [ha], X0.out.trans HX.out⟩
end Go.Proofs.Ytiekkninnjffpaa
