import Derived.Test.YtanbgpmbccianaaRows
import Derived.WalkKit
import Derived.WalkSpells
import Derived.WalkLawsBesides
import Derived.Outline
import Derived.Deep.Light
import Derived.BigRegion
import Derived.RegionTactic
import Derived.ChangeAlike
import Derived.OwnWalk
import Derived.Carry
import Derived.ChangeSlices
namespace Go.Proofs.Ytanbgpmbccianaa
open Go.ChangeShapes Go.RowKit
set_option linter.unusedSimpArgs false
set_option linter.unusedVariables false

def Hid (p : Prop) : Prop := p
theorem hide {p : Prop} (h : p) : Hid p := h
theorem Hid.out {p : Prop} (h : Hid p) : p := h

theorem ret_int {k : IntKind} {a b : Int} (h : a = b) : Ending.returned (.int k a) = .returned (.int k b) := by rw [h]
theorem ret_bool {a b : Bool} (h : a = b) : Ending.returned (.bool a) = .returned (.bool b) := by rw [h]

/-- The world has new blocks and draws alone. -/
structure Ext (w w' : World) : Prop where
  bl : Below w.heap.size w w'
  fz : ∀ a, w'.frozen? a = w.frozen? a

theorem Ext.refl (w : World) : Ext w w := ⟨Below.refl _ _, fun _ => rfl⟩
theorem Ext.trans {a b c : World} (h : Ext a b) (k : Ext b c) : Ext a c :=
  ⟨h.bl.trans (k.bl.mono h.bl.size), fun x => (k.fz x).trans (h.fz x)⟩
theorem Ext.drew {a b : World} (h : Ext a b) : Ext a b.drew := ⟨h.bl.drew, h.fz⟩
theorem Ext.drewN {a b : World} (h : Ext a b) (n : Nat) : Ext a (b.drewN n) := ⟨below_drewN h.bl n, h.fz⟩
theorem Ext.alloc {a b : World} (h : Ext a b) (c : Array Value) (t : TypeId) : Ext a (b.alloc (.cells c t)) :=
  ⟨h.bl.alloc h.bl.size _, fun x => (frozen?_alloc_cells _ _ _ x).trans (h.fz x)⟩
theorem Ext.setCell {a b : World} (h : Ext a b) {p : Addr} (hp : a.heap.size ≤ p.block) (v : Value) : Ext a (b.setCell p v) :=
  ⟨h.bl.setCell hp v, fun x => (World.frozen?_setCell _ _ _ _).trans (h.fz x)⟩
theorem cell_lt {W : World} {b o : Nat} {v : Value} (hc : W.cell? ⟨b, o, none⟩ = some v) : b < W.heap.size := by
  by_cases e : b < W.heap.size
  · exact e
  · have e2 : W.heap[b]? = none := by simp; omega
    simp [World.cell?, e2] at hc
theorem Ext.box {W w1 : World} (h : Ext W w1) {b o : Nat} {v : Value} (hc : W.cell? ⟨b, o, none⟩ = some v) : w1.cell? ⟨b, o, none⟩ = some v := by
  rw [h.bl.cell (p := ⟨b, o, none⟩) (cell_lt hc), hc]
theorem frozen_new (w : World) (b o : Nat) (h : w.heap.size ≤ b) : w.frozen? ⟨b, o, none⟩ = false := by
  have e : w.heap[b]? = none := by simp; omega
  simp [World.frozen?, e]
theorem Ext.unfrozen {w w1 : World} (h : Ext w w1) {b : Nat} (hb : w.heap.size ≤ b) (o : Nat) : w1.frozen? ⟨b, o, none⟩ = false := by
  rw [h.fz, frozen_new w b o hb]

/-- Of what was there, block b alone may have turned; new blocks and draws. -/
structure Mut (b : Nat) (w w' : World) : Prop where
  os : w'.os = w.os
  tape : w'.tape = w.tape
  output : w'.output = w.output
  size : w.heap.size ≤ w'.heap.size
  block : ∀ k, k < w.heap.size → k ≠ b → w'.heap[k]? = w.heap[k]?
  fz : ∀ a, w'.frozen? a = w.frozen? a

theorem Mut.refl (b : Nat) (w : World) : Mut b w w := ⟨rfl, rfl, rfl, Nat.le_refl _, fun _ _ _ => rfl, fun _ => rfl⟩
theorem Mut.trans {b : Nat} {a c d : World} (h : Mut b a c) (k : Mut b c d) : Mut b a d :=
  ⟨k.os.trans h.os, k.tape.trans h.tape, k.output.trans h.output, Nat.le_trans h.size k.size, fun i hi hn => (k.block i (Nat.lt_of_lt_of_le hi h.size) hn).trans (h.block i hi hn), fun a => (k.fz a).trans (h.fz a)⟩
theorem Ext.mut {a c : World} (h : Ext a c) (b : Nat) : Mut b a c :=
  ⟨h.bl.os, h.bl.tape, h.bl.output, h.bl.size, fun i hi _ => h.bl.block i hi, h.fz⟩
theorem Mut.setCell {b : Nat} {a c : World} (h : Mut b a c) (o : Nat) (v : Value) : Mut b a (c.setCell ⟨b, o, none⟩ v) :=
  h.trans ⟨rfl, rfl, rfl, by simp [World.setCell], fun k hk hn => Below.heap_setCell _ _ _ _ hn, fun x => World.frozen?_setCell _ _ _ _⟩
theorem Mut.drewN {b : Nat} {a c : World} (h : Mut b a c) (n : Nat) : Mut b a (c.drewN n) := ⟨h.os, h.tape, h.output, h.size, h.block, h.fz⟩
theorem Mut.drew {b : Nat} {a c : World} (h : Mut b a c) : Mut b a c.drew := ⟨h.os, h.tape, h.output, h.size, h.block, h.fz⟩
theorem Mut.box {b : Nat} {W w1 : World} (h : Mut b W w1) {k o : Nat} {v : Value} (hk : k ≠ b) (hc : W.cell? ⟨k, o, none⟩ = some v) : w1.cell? ⟨k, o, none⟩ = some v := by
  rw [← hc]
  exact World.cell?_of_block (w := W) (a := ⟨k, o, none⟩) (h.block k (cell_lt hc) hk)
theorem Mut.ext {b : Nat} {a c d : World} (h : Mut b c d) (x : Ext a c) (hb : a.heap.size ≤ b) : Ext a d :=
  ⟨x.bl.trans ⟨h.os, h.tape, h.output, h.size, fun k hk => h.block k (Nat.lt_of_lt_of_le hk x.bl.size) (by omega)⟩, fun y => (h.fz y).trans (x.fz y)⟩

/-- The integers xs lie in block b from place off on. -/
def Row (w : World) (b off : Nat) (xs : List Int) : Prop := ∀ j, j < xs.length → w.cell? ⟨b, off + j, none⟩ = some (.int .i64 (xs.getD j 0))
/-- v is a slice of these integers. -/
def Ints (w : World) (v : Value) (xs : List Int) : Prop := ∃ sa cap, v = .slice sa xs.length cap ∧ (xs = [] ∨ ∃ b off, sa = some ⟨b, off, none⟩ ∧ Row w b off xs)

theorem Row.ext {w w' : World} {b off : Nat} {xs : List Int} (h : Row w b off xs) (x : Ext w w') : Row w' b off xs := fun j hj => x.box (h j hj)
theorem Row.mut {w w' : World} {b off c : Nat} {xs : List Int} (h : Row w b off xs) (x : Mut c w w') (hb : b ≠ c) : Row w' b off xs := fun j hj => x.box hb (h j hj)
theorem Ints.ext {w w' : World} {v : Value} {xs : List Int} (h : Ints w v xs) (x : Ext w w') : Ints w' v xs := by
  obtain ⟨sa, cap, rfl, h⟩ := h
  refine ⟨sa, cap, rfl, ?_⟩
  rcases h with h | ⟨b, off, h1, h2⟩
  · exact Or.inl h
  · exact Or.inr ⟨b, off, h1, h2.ext x⟩
theorem Row.ints {w : World} {b off cap n : Nat} {xs : List Int} (h : Row w b off xs) (hn : n = xs.length) : Ints w (.slice (some ⟨b, off, none⟩) n cap) xs := ⟨_, _, by rw [hn], Or.inr ⟨b, off, rfl, h⟩⟩

theorem Row.set {w : World} {b off k : Nat} {xs : List Int} (h : Row w b off xs) (hk : k < xs.length) (x : Int) : Row (w.setCell ⟨b, off + k, none⟩ (.int .i64 x)) b off (xs.set k x) :=
  ints_set h hk
theorem info2 : (Try.prog.info? 2).map (fun i => (i.zero, i.size, i.bytes)) = some (some (.int .i64 0), 1, 8) := by kernel_rfl
end Go.Proofs.Ytanbgpmbccianaa
namespace Go.Proofs.Ytanbgpmbccianaa
open Go.ChangeShapes Go.RowKit
set_option linter.unusedSimpArgs false
set_option linter.unusedVariables false

/-- The first k are in, the rest is 0. -/
def fill (xs : List Int) (k : Nat) : List Int := xs.take k ++ List.replicate (xs.length - k) 0
theorem fill_len (xs : List Int) (k : Nat) : (fill xs k).length = xs.length := by
  unfold fill; simp; omega
theorem fill_set (xs : List Int) (k : Nat) (hk : k < xs.length) : (fill xs k).set k (xs.getD k 0) = fill xs (k + 1) := by
  unfold fill
  apply List.ext_getElem?
  intro j
  simp only [List.getElem?_set, List.getElem?_append, List.length_append, List.length_take, List.length_replicate, List.getElem?_take, List.getElem?_replicate, List.getD_eq_getElem?_getD]
  by_cases e : k = j
  · subst e
    have h1 : min k xs.length = k := by omega
    have h2 : min (k + 1) xs.length = k + 1 := by omega
    simp [h1, h2, hk]
    omega
  · have h1 : min k xs.length = k := by omega
    have h2 : min (k + 1) xs.length = k + 1 := by omega
    simp only [h1, h2, e, if_false]
    by_cases h : j < k
    · have : j < k + 1 := by omega
      simp [h, this]
    · have h3 : ¬ j < k + 1 := by omega
      simp only [h, h3, if_false]
      by_cases h4 : j - k < xs.length - k
      · have : j - (k + 1) < xs.length - (k + 1) := by omega
        simp [h4, this]
      · have : ¬ j - (k + 1) < xs.length - (k + 1) := by omega
        simp [h4, this]
theorem fill_zero (xs : List Int) : fill xs 0 = List.replicate xs.length 0 := by unfold fill; simp
theorem fill_full (xs : List Int) : fill xs xs.length = xs := by unfold fill; simp

theorem row_new (w : World) (n : Nat) : Row (w.alloc (.cells (madeCells #[.int .i64 0] n) 2)) w.heap.size 0 (List.replicate n 0) := by
  intro j hj
  rw [List.length_replicate] at hj
  rw [cell_of_row _ w.heap.size (0 + j) _ 2 (0, 0) (heap_alloc_new w _)]
  simp [madeCells, hj, Nat.mod_one]

/-- The first places where two lists of one length part. -/
theorem eq_of_getD {xs ys : List Int} (hl : xs.length = ys.length) (h : ∀ j, j < xs.length → xs.getD j 0 = ys.getD j 0) : xs = ys := by
  apply List.ext_getElem hl
  intro j h1 h2
  have := h j h1
  simpa [List.getD_eq_getElem?_getD, h1, h2] using this

/-- What mark lays: k, k + 1, .. -/
def counted (n : Nat) (k : Int) : List Int := (List.range n).map fun (j : Nat) => k + (j : Int)
theorem counted_len (n : Nat) (k : Int) : (counted n k).length = n := by simp [counted]
theorem counted_getD (n : Nat) (k : Int) (j : Nat) (hj : j < n) : (counted n k).getD j 0 = k + (j : Int) := by simp [counted, List.getD_eq_getElem?_getD, hj]

/-- Marked up to i. -/
def marked (xs : List Int) (k : Int) (i : Nat) : List Int := counted i k ++ xs.drop i
theorem marked_len (xs : List Int) (k : Int) (i : Nat) (hi : i ≤ xs.length) : (marked xs k i).length = xs.length := by
  unfold marked; simp [counted_len]; omega
theorem marked_set (xs : List Int) (k : Int) (i : Nat) (hi : i < xs.length) : (marked xs k i).set i (k + i) = marked xs k (i + 1) := by
  unfold marked counted
  apply List.ext_getElem?
  intro j
  simp only [List.getElem?_set, List.getElem?_append, List.length_append, List.length_map, List.length_range, List.length_drop, List.getElem?_map, List.getElem?_drop]
  by_cases e : i = j
  · subst e
    have : i + (xs.length - i) = xs.length := by omega
    simp [this, hi]
  · simp only [e, if_false]
    by_cases h : j < i
    · have : j < i + 1 := by omega
      simp [h, this]
    · have h3 : ¬ j < i + 1 := by omega
      have h5 : i + (j - i) = i + 1 + (j - (i + 1)) := by omega
      simp only [h, h3, if_false, h5]
theorem marked_zero (xs : List Int) (k : Int) : marked xs k 0 = xs := by simp [marked, counted]
theorem marked_full (xs : List Int) (k : Int) : marked xs k xs.length = counted xs.length k := by simp [marked]

end Go.Proofs.Ytanbgpmbccianaa
namespace Go.Proofs.Ytanbgpmbccianaa
open Go.ChangeShapes Go.RowKit
set_option linter.unusedSimpArgs false
set_option linter.unusedVariables false

def prod (xs : List Int) : Int := xs.foldl (· * ·) 1
theorem prod_take (xs : List Int) (k : Nat) (hk : k < xs.length) : prod (xs.take (k + 1)) = prod (xs.take k) * xs.getD k 0 := by
  unfold prod
  rw [List.take_add_one, List.foldl_append, List.getD_eq_getElem?_getD, List.getElem?_eq_getElem hk]
  rfl
/-- All lengths up to k are in range. -/
abbrev InR (xs : List Int) (k : Nat) : Prop := ∀ j, j < k → 0 ≤ xs.getD j 0 ∧ xs.getD j 0 ≤ 4096
theorem InR.step {xs : List Int} {k : Nat} (h : InR xs k) (hx : 0 ≤ xs.getD k 0 ∧ xs.getD k 0 ≤ 4096) : InR xs (k + 1) := fun j hj => by
  by_cases e : j = k
  · rw [e]; exact hx
  · exact h j (by omega)
theorem mul_bd {n x B : Int} (hn : 0 ≤ n ∧ n ≤ B) (hx : 0 ≤ x ∧ x ≤ 4096) : 0 ≤ n * x ∧ n * x ≤ B * 4096 :=
  ⟨Int.mul_nonneg hn.1 hx.1, Int.mul_le_mul hn.2 hx.2 hx.1 (Int.le_trans hn.1 hn.2)⟩
def bd (k : Nat) : Int := if k = 0 then 1 else if k = 1 then 4096 else if k = 2 then 16777216 else if k = 3 then 68719476736 else 281474976710656
theorem bd_le (k : Nat) : bd k ≤ 281474976710656 := by unfold bd; repeat' split
                                                       all_goals omega
theorem prod_bd (xs : List Int) : ∀ k, k ≤ 4 → k ≤ xs.length → InR xs k → 0 ≤ prod (xs.take k) ∧ prod (xs.take k) ≤ bd k
  | 0, _, _, _ => by simp [prod, bd]
  | k + 1, h4, hl, h => by
    have ih := prod_bd xs k (by omega) (by omega) (fun j hj => h j (by omega))
    rw [prod_take xs k (by omega)]
    have := mul_bd ih (h k (by omega))
    have hb : bd k * 4096 = bd (k + 1) := by
      obtain rfl | rfl | rfl | rfl : k = 0 ∨ k = 1 ∨ k = 2 ∨ k = 3 := by omega
      all_goals rfl
    rw [hb] at this
    exact this

/-- A good shape. -/
abbrev Good (xs : List Int) : Prop := xs.length ≤ 4 ∧ InR xs xs.length ∧ prod xs ≤ 4096
def goodB (xs : List Int) : Bool := decide (Good xs)
def cntL (xs : List Int) : Int := if Good xs then prod xs else -1

set_option maxRecDepth 100000 in
set_option maxHeartbeats 1000000 in
theorem l2Count_any {w : World} {v : Value} {xs : List Int} (h : Ints w v xs) (hl : xs.length ≤ 1000000000000) :
    Calls Try.prog 16 #[v] w fun e w' => e = .returned (.int .i64 (cntL xs)) ∧ w' = w := by
  obtain ⟨sa, cap, rfl, hx⟩ := h
  have HX := hide hx
  clear hx
  by_cases h4 : xs.length ≤ 4
  · have h4' : (xs.length : Int) ≤ 4 := by omega
    go_enter Try.func16, Try.ntmps16
    go_wp2
    go_loopw [3, 4] (fun m i wr => ∃ k : Nat, i = .int .i64 k ∧ m = .int .i64 (prod (xs.take k)) ∧ k ≤ xs.length ∧ Hid (InR xs k) ∧ wr = w) (fun m i _ => xs.length - (intOf i).toNat)
    case atStart => exact ⟨0, rfl, rfl, by omega, fun j hj => absurd hj (Nat.not_lt_zero _), rfl⟩
    case round =>
      obtain ⟨k, rfl, rfl, hk, hin, rfl⟩ := hrel
      have hb := prod_bd xs k (by omega) hk hin.out
      have hb2 := bd_le k
      by_cases hlt : k < xs.length
      · rcases HX.out with h0 | ⟨b, off, rfl, hrow⟩
        · rw [h0] at hlt; simp at hlt
        have q0 := hrow k hlt
        have hk0 : (0 : Int) ≤ (k : Int) := Int.natCast_nonneg _
        have hk1 : (k : Int) < (xs.length : Int) := by omega
        have hp := prod_take xs k hlt
        by_cases hr : 0 ≤ xs.getD k 0 ∧ xs.getD k 0 ≤ 4096
        · have hin2 : Hid (InR xs (k + 1)) := hin.out.step hr
          have hB := prod_bd xs (k + 1) (by omega) (by omega) hin2.out
          have hB2 := bd_le (k + 1)
          generalize bd (k + 1) = B1 at hB hB2
          generalize bd k = B0 at hb hb2
          generalize hP1 : prod (xs.take (k + 1)) = P1 at hp hB
          have HP1 := hide hP1
          clear hP1
          generalize prod (xs.take k) = P0 at hp hb ⊢
          generalize xs.getD k 0 = x at q0 hp hr
          have hw1 : wrap64 (P0 * x) = P1 := by rw [← hp]; unfold wrap64; omega
          clear hrow hp
          have hlo : ¬ x < 0 := by omega
          have hhi : ¬ 4096 < x := by omega
          go_wp2
          go_roundw
          · exact ⟨k + 1, by go_num, by first | (rw [HP1.out]; done) | (rw [HP1.out, hw1]), by omega, hin2, by trivial⟩
          · simp [intOf]; omega
        · have hng : Hid (cntL xs = -1) := by
            show cntL xs = -1
            unfold cntL
            exact if_neg (fun g => hr (g.2.1 k hlt))
          generalize xs.getD k 0 = x at q0 hp hr
          clear hp hrow hb hb2
          by_cases hlo : x < 0
          · go_wp2
            go_ret
            exact ⟨ret_int hng.out.symm, rfl⟩
          · have hhi : 4096 < x := by omega
            go_wp2
            go_ret
            exact ⟨ret_int hng.out.symm, rfl⟩
      · have hkk : k = xs.length := by omega
        subst hkk
        rw [List.take_length] at hb ⊢
        by_cases hp : prod xs ≤ 4096
        · have hg : Hid (cntL xs = prod xs) := if_pos ⟨h4, hin.out, hp⟩
          generalize prod xs = P at hp hg hb ⊢
          go_wp2
          go_ret
          exact ⟨ret_int hg.out.symm, rfl⟩
        · have hg : Hid (cntL xs = -1) := if_neg (fun g => hp g.2.2)
          generalize prod xs = P at hp hg hb ⊢
          have hp2 : 4096 < P := by omega
          go_wp2
          go_ret
          exact ⟨ret_int hg.out.symm, rfl⟩
  · have hg : Hid (cntL xs = -1) := if_neg (fun g => h4 g.1)
    have h4' : 4 < (xs.length : Int) := by omega
    go_enter Try.func16, Try.ntmps16
    go_wp2
    go_ret
    exact ⟨ret_int hg.out.symm, rfl⟩

/-- A shape as the program keeps it. -/
def shp (xs : List Int) : Array Value := #[.int .i64 xs.length, .int .i64 (xs.getD 0 0), .int .i64 (xs.getD 1 0), .int .i64 (xs.getD 2 0), .int .i64 (xs.getD 3 0)]

set_option maxRecDepth 100000 in
set_option maxHeartbeats 1000000 in
theorem count_any (w : World) (xs : List Int) (h4 : xs.length ≤ 4) (hr : InR xs xs.length) :
    Calls Try.prog 19 #[.agg (shp xs)] w fun e w' => e = .returned (.int .i64 (prod xs)) ∧ w' = w.alloc (.cells (shp xs) 56) := by
  have HR := hide hr
  clear hr
  have h4' : (xs.length : Int) ≤ 4 := by omega
  go_enter Try.func19, Try.ntmps19
  simp only [shp]
  have R0 : ∀ j, j < xs.length → (w.alloc (.cells (shp xs) 56)).cell? ⟨w.heap.size, 1 + j, none⟩ = some (.int .i64 (xs.getD j 0)) := fun j hj => by
    obtain rfl | rfl | rfl | rfl : j = 0 ∨ j = 1 ∨ j = 2 ∨ j = 3 := by omega
    all_goals simp [shp]
  have HR0 := hide R0
  clear R0
  go_wp2
  go_loopw [3, 11] (fun m i wr => ∃ k : Nat, i = .int .i64 k ∧ m = .int .i64 (prod (xs.take k)) ∧ k ≤ xs.length ∧ wr = w.alloc (.cells (shp xs) 56)) (fun m i _ => xs.length - (intOf i).toNat)
  case atStart => exact ⟨0, rfl, rfl, by omega, rfl⟩
  case round =>
    obtain ⟨k, rfl, rfl, hk, rfl⟩ := hrel
    have hb := prod_bd xs k (by omega) hk (fun j hj => HR.out j (by omega))
    have hb2 := bd_le k
    by_cases hlt : k < xs.length
    · have q0 := HR0.out k hlt
      have hk0 : (0 : Int) ≤ (k : Int) := Int.natCast_nonneg _
      have hk1 : (k : Int) < (xs.length : Int) := by omega
      have hp := prod_take xs k hlt
      have hB := prod_bd xs (k + 1) (by omega) (by omega) (fun j hj => HR.out j (by omega))
      have hB2 := bd_le (k + 1)
      generalize bd (k + 1) = B1 at hB hB2
      generalize bd k = B0 at hb hb2
      generalize hP1 : prod (xs.take (k + 1)) = P1 at hp hB
      have HP1 := hide hP1
      clear hP1
      generalize prod (xs.take k) = P0 at hp hb ⊢
      generalize xs.getD k 0 = x at q0 hp
      have hw1 : wrap64 (P0 * x) = P1 := by rw [← hp]; unfold wrap64; omega
      clear hp
      go_wp2
      go_roundw
      · exact ⟨k + 1, by go_num, by first | (rw [HP1.out]; done) | (rw [HP1.out, hw1]), by omega, by trivial⟩
      · simp [intOf]; omega
    · have hkk : k = xs.length := by omega
      subst hkk
      rw [List.take_length]
      go_wp2
      go_ret
      exact ⟨rfl, rfl⟩
end Go.Proofs.Ytanbgpmbccianaa
