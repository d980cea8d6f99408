import Derived.Test.YtfhcpicddegblaaGreatM1
set_option linter.unusedSimpArgs false
set_option linter.unusedVariables false
set_option maxRecDepth 100000
set_option maxHeartbeats 8000000
namespace Go.Proofs.YtfhcpicddegblaaGreat
open Go.Value renaming int → O, slice → σ, agg → γ
open Go.IntKind renaming i64 → ι
open Go.Obj renaming cells → χ
section
open Go.ChangeShapes Go.RowKit
def fill (xs : List Int) (k : Nat) : List Int := xs.take k ++ List.replicate (xs.length - k) 0
theorem zt15 (xs : List Int) (k : Nat) : (fill xs k).length = xs.length := by
 unfold fill; simp; omega
theorem ze22 (xs : List Int) (k : Nat) (hk : k < xs.length) : (fill xs k).set k (xs.getD k 0) = fill xs (k + 1) := by
 unfold fill
 apply List.ext_getElem?
 intro j
 simp only [List.getElem?_set, List.getElem?_append, List.length_append, List.length_take, List.length_replicate, List.getElem?_take, List.getElem?_replicate, List.getD_eq_getElem?_getD]
 by_cases e : k = j
 ·subst e
  have h1 : min k xs.length = k := by omega
  have h2 : min (k + 1) xs.length = k + 1 := by omega
  simp [h1, h2, hk]
  omega
 ·have h1 : min k xs.length = k := by omega
  have h2 : min (k + 1) xs.length = k + 1 := by omega
  simp only [h1, h2, e, if_false]
  by_cases h : j < k
  ·have : j < k + 1 := by omega
   simp [h, this]
  ·have h3 : ¬ j < k + 1 := by omega
   simp only [h, h3, if_false]
   by_cases h4 : j - k < xs.length - k
   ·have : j - (k + 1) < xs.length - (k + 1) := by omega
    simp [h4, this]
   ·have : ¬ j - (k + 1) < xs.length - (k + 1) := by omega
    simp [h4, this]
theorem zy19 (xs : List Int) : fill xs 0 = List.replicate xs.length 0 := by unfold fill; simp
theorem zz19 (xs : List Int) : fill xs xs.length = xs := by unfold fill; simp
theorem zl23 (w : World) (n : Nat) : Row (w.alloc (χ (madeCells #[O ι 0] n) 2)) w.heap.size 0 (List.replicate n 0) := by
 intro j hj
 rw [List.length_replicate] at hj
 rw [cell_of_row _ w.heap.size (0 + j) _ 2 (0, 0) (heap_alloc_new w _)]
 simp [madeCells, hj, Nat.mod_one]
theorem zg8 {w : World} {v : Value} {xs : List Int} (h : Ints w v xs) (hl : xs.length ≤ 1048576) :
  Calls Tryz.prog 75 #[v] w fun e w' => e = .returned (σ (some ⟨w.heap.size, 0, none⟩) xs.length xs.length) ∧ Row w' w.heap.size 0 xs ∧ Ext w w' ∧ w.heap.size < w'.heap.size := by
 obtain ⟨i0, hi0, hz0, hz1, hz2⟩ := info_parts za22
 obtain ⟨sa, cap, rfl, hx⟩ := h
 have hmk := run_make (P := Tryz.prog) w 25 2 i0 (O ι 0) Tryz.underlying25 hi0 hz0 .i64 .i64 xs.length xs.length (by omega) (Int.le_refl _) (by rw [hz2]; omega) (by omega)
 simp only [Int.toNat_natCast] at hmk
 have HX := hide hx
 clear hx
 have R0 := hide (zl23 w xs.length)
 go_enter Tryz.func75, Tryz.ntmps75
 go_wp2
 go_loopw [4] (fun i wr => ∃ k : Nat, i = O ι k ∧ k ≤ xs.length ∧ Row wr w.heap.size 0 (fill xs k) ∧ Ext w wr ∧ w.heap.size < wr.heap.size) (fun i _ => xs.length - (intOf i).toNat)
 case atStart => exact ⟨0, rfl, by omega, by rw [zy19]; exact R0.out, (Ext.refl w).alloc _ _, by simp⟩
 case round =>
  obtain ⟨k, rfl, hk, hr, he, hs⟩ := hrel
  have HR := hide hr
  have HE := hide he
  clear hr he
  by_cases hlt : k < xs.length
  ·rcases HX.out with h0 | ⟨b, off, rfl, hrow⟩
   ·rw [h0] at hlt; simp at hlt
   have q0 := HE.out.box (hrow k hlt)
   have q1 := HR.out k (by rw [zt15]; exact hlt)
   rw [Nat.zero_add] at q1
   have qf := HE.out.unfrozen (Nat.le_refl _) k
   have hk0 : (0 : Int) ≤ (k : Int) := Int.natCast_nonneg _
   have hk1 : (k : Int) < (xs.length : Int) := by omega
   have St := HR.out.set (k := k) (by rw [zt15]; exact hlt) (xs.getD k 0)
   rw [ze22 xs k hlt, Nat.zero_add] at St
   generalize xs.getD k 0 = x at q0 St
   have HSt := hide St
   clear St
   go_wp2
   go_roundw
   ·exact ⟨k + 1, by go_num, by omega, HSt.out, HE.out.setCell (Nat.le_refl _) _, by simpa [World.setCell] using hs⟩
   ·simp [intOf]; omega
  ·have hkk : k = xs.length := by omega
   go_wp2
   go_ret
   refine ⟨rfl, ?_, HE.out, hs⟩
   have := HR.out
   rw [hkk, zz19] at this
   exact this
theorem zq17 {xs ys : List Int} (hl : xs.length = ys.length) (h : ∀ j, j < xs.length → xs.getD j 0 = ys.getD j 0) : xs = ys := by
 apply List.ext_getElem hl
 intro j h1 h2
 have := h j h1
 simpa [List.getD_eq_getElem?_getD, h1, h2] using this
theorem za9 {w : World} {v u : Value} {xs ys : List Int} (h : Ints w v xs) (g : Ints w u ys) (hl : xs.length ≤ 1000000000000) :
  Calls Tryz.prog 91 #[v, u] w fun e w' => e = .returned (.bool (decide (xs = ys))) ∧ Ext w w' := by
 obtain ⟨sa, cap, rfl, hx⟩ := h
 obtain ⟨ta, dap, rfl, hy⟩ := g
 have HX := hide hx
 have HY := hide hy
 clear hx hy
 by_cases hle : xs.length = ys.length
 ·have hle' : (xs.length : Int) = (ys.length : Int) := by omega
  go_enter Tryz.func91, Tryz.ntmps91
  go_wp2
  go_loopw [5] (fun i wr => ∃ k : Nat, i = O ι k ∧ k ≤ xs.length ∧ Hid (∀ j, j < k → xs.getD j 0 = ys.getD j 0) ∧ Ext w wr) (fun i _ => xs.length - (intOf i).toNat)
  case atStart => exact ⟨0, rfl, by omega, fun j hj => absurd hj (Nat.not_lt_zero _), Ext.refl w⟩
  case round =>
   obtain ⟨k, rfl, hk, he, hw⟩ := hrel
   have HW := hide hw
   clear hw
   by_cases hlt : k < xs.length
   ·rcases HX.out with h0 | ⟨b, off, rfl, hrow⟩
    ·rw [h0] at hlt; simp at hlt
    rcases HY.out with h0 | ⟨b2, off2, rfl, hrow2⟩
    ·rw [hle, h0] at hlt; simp at hlt
    have q0 := HW.out.box (hrow k hlt)
    have q1 := HW.out.box (hrow2 k (by omega))
    have hk0 : (0 : Int) ≤ (k : Int) := Int.natCast_nonneg _
    have hk1 : (k : Int) < (xs.length : Int) := by omega
    have hk2 : (k : Int) < (ys.length : Int) := by omega
    by_cases hq : xs.getD k 0 = ys.getD k 0
    ·have he2 : Hid (∀ j, j < k + 1 → xs.getD j 0 = ys.getD j 0) := fun j hj => by
      by_cases e : j = k
      ·rw [e]; exact hq
      ·exact he.out j (by omega)
     rw [hq] at q0
     clear hq
     generalize ys.getD k 0 = x at q0 q1
     clear hrow hrow2
     go_wp2_with fail
     go_region
     all_goals go_wp2
     all_goals go_roundw
     all_goals first | exact ⟨k + 1, by go_num, by omega, he2, HW.out.drew⟩ | (simp [intOf]; omega)
    ·have hne : ¬ xs = ys := fun e => hq (by rw [e])
     have hd : Hid (decide (xs = ys) = false) := decide_eq_false hne
     generalize xs.getD k 0 = x at q0 hq
     generalize ys.getD k 0 = y at q1 hq
     have hq2 : (x != y) = true := by simp [hq]
     clear hrow hrow2 hne
     go_wp2_with fail
     go_region
     all_goals go_wp2
     all_goals go_ret
     all_goals exact ⟨zm hd.out.symm, HW.out.drew⟩
   ·have hkk : k = xs.length := by omega
    subst hkk
    have hd : Hid (decide (xs = ys) = true) := decide_eq_true (zq17 hle he.out)
    go_wp2
    go_ret
    exact ⟨zm hd.out.symm, HW.out⟩
 ·have hd : Hid (decide (xs = ys) = false) := decide_eq_false (fun e => hle (by rw [e]))
  have hne : ¬ (xs.length : Int) = (ys.length : Int) := by omega
  go_enter Tryz.func91, Tryz.ntmps91
  go_wp2
  go_ret
  exact ⟨zm hd.out.symm, Ext.refl w⟩
def counted (n : Nat) (k : Int) : List Int := (List.range n).map fun (j : Nat) => k + (j : Int)
theorem zn14 (n : Nat) (k : Int) : (counted n k).length = n := by simp [counted]
def marked (xs : List Int) (k : Int) (i : Nat) : List Int := counted i k ++ xs.drop i
theorem zx16 (xs : List Int) (k : Int) (i : Nat) (hi : i ≤ xs.length) : (marked xs k i).length = xs.length := by
 unfold marked; simp [zn14]; omega
theorem zw16 (xs : List Int) (k : Int) (i : Nat) (hi : i < xs.length) : (marked xs k i).set i (k + i) = marked xs k (i + 1) := by
 unfold marked counted
 apply List.ext_getElem?
 intro j
 simp only [List.getElem?_set, List.getElem?_append, List.length_append, List.length_map, List.length_range, List.length_drop, List.getElem?_map, List.getElem?_drop]
 by_cases e : i = j
 ·subst e
  have : i + (xs.length - i) = xs.length := by omega
  simp [this, hi]
 ·simp only [e, if_false]
  by_cases h : j < i
  ·have : j < i + 1 := by omega
   simp [h, this]
  ·have h3 : ¬ j < i + 1 := by omega
   have h5 : i + (j - i) = i + 1 + (j - (i + 1)) := by omega
   simp only [h, h3, if_false, h5]
theorem zm13 (xs : List Int) (k : Int) : marked xs k 0 = xs := by simp [marked, counted]
theorem zn13 (xs : List Int) (k : Int) : marked xs k xs.length = counted xs.length k := by simp [marked]
def prod (xs : List Int) : Int := xs.foldl (· * ·) 1
theorem zn4 (xs : List Int) (k : Nat) (hk : k < xs.length) : prod (xs.take (k + 1)) = prod (xs.take k) * xs.getD k 0 := by
 unfold prod
 rw [List.take_add_one, List.foldl_append, List.getD_eq_getElem?_getD, List.getElem?_eq_getElem hk]
 rfl
abbrev InR (xs : List Int) (k : Nat) : Prop := ∀ j, j < k → 0 ≤ xs.getD j 0 ∧ xs.getD j 0 ≤ 4096
theorem InR.step {xs : List Int} {k : Nat} (h : InR xs k) (hx : 0 ≤ xs.getD k 0 ∧ xs.getD k 0 ≤ 4096) : InR xs (k + 1) := fun j hj => by
 by_cases e : j = k
 ·rw [e]; exact hx
 ·exact h j (by omega)
theorem zi26 {n x B : Int} (hn : 0 ≤ n ∧ n ≤ B) (hx : 0 ≤ x ∧ x ≤ 4096) : 0 ≤ n * x ∧ n * x ≤ B * 4096 :=
 ⟨Int.mul_nonneg hn.1 hx.1, Int.mul_le_mul hn.2 hx.2 hx.1 (Int.le_trans hn.1 hn.2)⟩
def bd (k : Nat) : Int := if k = 0 then 1 else if k = 1 then 4096 else if k = 2 then 16777216 else if k = 3 then 68719476736 else 281474976710656
theorem zw17 (k : Nat) : bd k ≤ 281474976710656 := by unfold bd; repeat' split; all_goals omega
theorem zp3 (xs : List Int) : ∀ k, k ≤ 4 → k ≤ xs.length → InR xs k → 0 ≤ prod (xs.take k) ∧ prod (xs.take k) ≤ bd k
 | 0, _, _, _ => by simp [prod, bd]
 | k + 1, h4, hl, h => by
  have ih := zp3 xs k (by omega) (by omega) (fun j hj => h j (by omega))
  rw [zn4 xs k (by omega)]
  have := zi26 ih (h k (by omega))
  have hb : bd k * 4096 = bd (k + 1) := by
   obtain rfl | rfl | rfl | rfl : k = 0 ∨ k = 1 ∨ k = 2 ∨ k = 3 := by omega
   all_goals rfl
  rw [hb] at this
  exact this
abbrev Good (xs : List Int) : Prop := xs.length ≤ 4 ∧ InR xs xs.length ∧ prod xs ≤ 4096
def goodB (xs : List Int) : Bool := decide (Good xs)
def cntL (xs : List Int) : Int := if Good xs then prod xs else -1
theorem zn2 {w : World} {v : Value} {xs : List Int} (h : Ints w v xs) (hl : xs.length ≤ 1000000000000) :
  Calls Tryz.prog 105 #[v] w fun e w' => e = .returned (O ι (cntL xs)) ∧ w' = w := by
 obtain ⟨sa, cap, rfl, hx⟩ := h
 have HX := hide hx
 clear hx
 by_cases h4 : xs.length ≤ 4
 ·have h4' : (xs.length : Int) ≤ 4 := by omega
  go_enter Tryz.func105, Tryz.ntmps105
  go_wp2
  go_loopw [3, 4] (fun m i wr => ∃ k : Nat, i = O ι k ∧ m = O ι (prod (xs.take k)) ∧ k ≤ xs.length ∧ Hid (InR xs k) ∧ wr = w) (fun m i _ => xs.length - (intOf i).toNat)
  case atStart => exact ⟨0, rfl, rfl, by omega, fun j hj => absurd hj (Nat.not_lt_zero _), rfl⟩
  case round =>
   obtain ⟨k, rfl, rfl, hk, hin, rfl⟩ := hrel
   have hb := zp3 xs k (by omega) hk hin.out
   have hb2 := zw17 k
   by_cases hlt : k < xs.length
   ·rcases HX.out with h0 | ⟨b, off, rfl, hrow⟩
    ·rw [h0] at hlt; simp at hlt
    have q0 := hrow k hlt
    have hk0 : (0 : Int) ≤ (k : Int) := Int.natCast_nonneg _
    have hk1 : (k : Int) < (xs.length : Int) := by omega
    have hp := zn4 xs k hlt
    by_cases hr : 0 ≤ xs.getD k 0 ∧ xs.getD k 0 ≤ 4096
    ·have hin2 : Hid (InR xs (k + 1)) := hin.out.step hr
     have hB := zp3 xs (k + 1) (by omega) (by omega) hin2.out
     have hB2 := zw17 (k + 1)
     generalize bd (k + 1) = B1 at hB hB2
     generalize bd k = B0 at hb hb2
     generalize hP1 : prod (xs.take (k + 1)) = P1 at hp hB
     have HP1 := hide hP1
     clear hP1
     generalize prod (xs.take k) = P0 at hp hb ⊢
     generalize xs.getD k 0 = x at q0 hp hr
     have hw1 : wrap64 (P0 * x) = P1 := by rw [← hp]; unfold wrap64; omega
     clear hrow hp
     have hlo : ¬ x < 0 := by omega
     have hhi : ¬ 4096 < x := by omega
     go_wp2
     go_roundw
     ·exact ⟨k + 1, by go_num, by first | (rw [HP1.out]; done) | (rw [HP1.out, hw1]), by omega, hin2, by trivial⟩
     ·simp [intOf]; omega
    ·have hng : Hid (cntL xs = -1) := by
      show cntL xs = -1
      unfold cntL
      exact if_neg (fun g => hr (g.2.1 k hlt))
     generalize xs.getD k 0 = x at q0 hp hr
     clear hp hrow hb hb2
     by_cases hlo : x < 0
     ·go_wp2
      go_ret
      exact ⟨zl1 hng.out.symm, rfl⟩
     ·have hhi : 4096 < x := by omega
      go_wp2
      go_ret
      exact ⟨zl1 hng.out.symm, rfl⟩
   ·have hkk : k = xs.length := by omega
    subst hkk
    rw [List.take_length] at hb ⊢
    by_cases hp : prod xs ≤ 4096
    ·have hg : Hid (cntL xs = prod xs) := if_pos ⟨h4, hin.out, hp⟩
     generalize prod xs = P at hp hg hb ⊢
     go_wp2
     go_ret
     exact ⟨zl1 hg.out.symm, rfl⟩
    ·have hg : Hid (cntL xs = -1) := if_neg (fun g => hp g.2.2)
     generalize prod xs = P at hp hg hb ⊢
     have hp2 : 4096 < P := by omega
     go_wp2
     go_ret
     exact ⟨zl1 hg.out.symm, rfl⟩
 ·have hg : Hid (cntL xs = -1) := if_neg (fun g => h4 g.1)
  have h4' : 4 < (xs.length : Int) := by omega
  go_enter Tryz.func105, Tryz.ntmps105
  go_wp2
  go_ret
  exact ⟨zl1 hg.out.symm, rfl⟩
def shp (xs : List Int) : Array Value := #[O ι xs.length, O ι (xs.getD 0 0), O ι (xs.getD 1 0), O ι (xs.getD 2 0), O ι (xs.getD 3 0)]
theorem zp2 (w : World) (xs : List Int) (h4 : xs.length ≤ 4) (hr : InR xs xs.length) :
  Calls Tryz.prog 81 #[γ (shp xs)] w fun e w' => e = .returned (O ι (prod xs)) ∧ w' = w.alloc (χ (shp xs) 81) := by
 have HR := hide hr
 clear hr
 have h4' : (xs.length : Int) ≤ 4 := by omega
 go_enter Tryz.func81, Tryz.ntmps81
 simp only [shp]
 have R0 : ∀ j, j < xs.length → (w.alloc (χ (shp xs) 81)).cell? ⟨w.heap.size, 1 + j, none⟩ = some (O ι (xs.getD j 0)) := fun j hj => by
  obtain rfl | rfl | rfl | rfl : j = 0 ∨ j = 1 ∨ j = 2 ∨ j = 3 := by omega
  all_goals simp [shp]
 have HR0 := hide R0
 clear R0
 go_wp2
 go_loopw [3, 11] (fun m i wr => ∃ k : Nat, i = O ι k ∧ m = O ι (prod (xs.take k)) ∧ k ≤ xs.length ∧ wr = w.alloc (χ (shp xs) 81)) (fun m i _ => xs.length - (intOf i).toNat)
 case atStart => exact ⟨0, rfl, rfl, by omega, rfl⟩
 case round =>
  obtain ⟨k, rfl, rfl, hk, rfl⟩ := hrel
  have hb := zp3 xs k (by omega) hk (fun j hj => HR.out j (by omega))
  have hb2 := zw17 k
  by_cases hlt : k < xs.length
  ·have q0 := HR0.out k hlt
   have hk0 : (0 : Int) ≤ (k : Int) := Int.natCast_nonneg _
   have hk1 : (k : Int) < (xs.length : Int) := by omega
   have hp := zn4 xs k hlt
   have hB := zp3 xs (k + 1) (by omega) (by omega) (fun j hj => HR.out j (by omega))
   have hB2 := zw17 (k + 1)
   generalize bd (k + 1) = B1 at hB hB2
   generalize bd k = B0 at hb hb2
   generalize hP1 : prod (xs.take (k + 1)) = P1 at hp hB
   have HP1 := hide hP1
   clear hP1
   generalize prod (xs.take k) = P0 at hp hb ⊢
   generalize xs.getD k 0 = x at q0 hp
   have hw1 : wrap64 (P0 * x) = P1 := by rw [← hp]; unfold wrap64; omega
   clear hp
   go_wp2
   go_roundw
   ·exact ⟨k + 1, by go_num, by first | (rw [HP1.out]; done) | (rw [HP1.out, hw1]), by omega, by trivial⟩
   ·simp [intOf]; omega
  ·have hkk : k = xs.length := by omega
   subst hkk
   rw [List.take_length]
   go_wp2
   go_ret
   exact ⟨rfl, rfl⟩
end
end Go.Proofs.YtfhcpicddegblaaGreat
