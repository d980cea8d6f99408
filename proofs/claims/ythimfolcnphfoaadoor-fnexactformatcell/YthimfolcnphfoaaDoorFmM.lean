import Derived.Test.YthimfolcnphfoaaDoorFmL
import Derived.ChangeSlices
import Derived.ChangeAlike
namespace Go.Proofs.YthimfolcnphfoaaDoor
open Go.ChangeShapes Go.RowKit
set_option linter.unusedSimpArgs false
set_option linter.unusedVariables false

theorem cell_lt {W : World} {b o : Nat} {v : Value} (hc : W.cell? ⟨b, o, none⟩ = some v) : b < W.heap.size := by
  by_cases e : b < W.heap.size
  · exact e
  · have e2 : W.heap[b]? = none := by simp; omega
    simp [World.cell?, e2] at hc
theorem frozen_new (w : World) (b o : Nat) (h : w.heap.size ≤ b) : w.frozen? ⟨b, o, none⟩ = false := by
  have e : w.heap[b]? = none := by simp; omega
  simp [World.frozen?, e]
theorem Ext.unfrozen {w w1 : World} (h : Ext w w1) {b : Nat} (hb : w.heap.size ≤ b) (o : Nat) : w1.frozen? ⟨b, o, none⟩ = false := by
  rw [h.fz, frozen_new w b o hb]

/-- Of what was there, block b alone may have turned; new blocks and draws. -/
structure Mut (b : Nat) (w w' : World) : Prop where
  os : w'.os = w.os
  tape : w'.tape = w.tape
  output : w'.output = w.output
  size : w.heap.size ≤ w'.heap.size
  block : ∀ k, k < w.heap.size → k ≠ b → w'.heap[k]? = w.heap[k]?
  fz : ∀ a, w'.frozen? a = w.frozen? a

theorem Mut.refl (b : Nat) (w : World) : Mut b w w := ⟨rfl, rfl, rfl, Nat.le_refl _, fun _ _ _ => rfl, fun _ => rfl⟩
theorem Mut.trans {b : Nat} {a c d : World} (h : Mut b a c) (k : Mut b c d) : Mut b a d :=
  ⟨k.os.trans h.os, k.tape.trans h.tape, k.output.trans h.output, Nat.le_trans h.size k.size, fun i hi hn => (k.block i (Nat.lt_of_lt_of_le hi h.size) hn).trans (h.block i hi hn), fun a => (k.fz a).trans (h.fz a)⟩
theorem Ext.mut {a c : World} (h : Ext a c) (b : Nat) : Mut b a c :=
  ⟨h.bl.os, h.bl.tape, h.bl.output, h.bl.size, fun i hi _ => h.bl.block i hi, h.fz⟩
theorem Mut.setCell {b : Nat} {a c : World} (h : Mut b a c) (o : Nat) (v : Value) : Mut b a (c.setCell ⟨b, o, none⟩ v) :=
  h.trans ⟨rfl, rfl, rfl, by simp [World.setCell], fun k hk hn => Below.heap_setCell _ _ _ _ hn, fun x => World.frozen?_setCell _ _ _ _⟩
theorem Mut.drewN {b : Nat} {a c : World} (h : Mut b a c) (n : Nat) : Mut b a (c.drewN n) := ⟨h.os, h.tape, h.output, h.size, h.block, h.fz⟩
theorem Mut.drew {b : Nat} {a c : World} (h : Mut b a c) : Mut b a c.drew := ⟨h.os, h.tape, h.output, h.size, h.block, h.fz⟩
theorem Mut.box {b : Nat} {W w1 : World} (h : Mut b W w1) {k o : Nat} {v : Value} (hk : k ≠ b) (hc : W.cell? ⟨k, o, none⟩ = some v) : w1.cell? ⟨k, o, none⟩ = some v := by
  rw [← hc]
  exact World.cell?_of_block (w := W) (a := ⟨k, o, none⟩) (h.block k (cell_lt hc) hk)
theorem Mut.ext {b : Nat} {a c d : World} (h : Mut b c d) (x : Ext a c) (hb : a.heap.size ≤ b) : Ext a d :=
  ⟨x.bl.trans ⟨h.os, h.tape, h.output, h.size, fun k hk => h.block k (Nat.lt_of_lt_of_le hk x.bl.size) (by omega)⟩, fun y => (h.fz y).trans (x.fz y)⟩

/-- The integers xs lie in block b from place off on. -/
def Row (w : World) (b off : Nat) (xs : List Int) : Prop := ∀ j, j < xs.length → w.cell? ⟨b, off + j, none⟩ = some (.int .u8 (xs.getD j 0))
/-- v is a slice of these integers. -/
def Ints (w : World) (v : Value) (xs : List Int) : Prop := ∃ sa cap, v = .slice sa xs.length cap ∧ (xs = [] ∨ ∃ b off, sa = some ⟨b, off, none⟩ ∧ Row w b off xs)

theorem Row.ext {w w' : World} {b off : Nat} {xs : List Int} (h : Row w b off xs) (x : Ext w w') : Row w' b off xs := fun j hj => x.box (h j hj)
theorem Row.mut {w w' : World} {b off c : Nat} {xs : List Int} (h : Row w b off xs) (x : Mut c w w') (hb : b ≠ c) : Row w' b off xs := fun j hj => x.box hb (h j hj)
theorem Ints.ext {w w' : World} {v : Value} {xs : List Int} (h : Ints w v xs) (x : Ext w w') : Ints w' v xs := by
  obtain ⟨sa, cap, rfl, h⟩ := h
  refine ⟨sa, cap, rfl, ?_⟩
  rcases h with h | ⟨b, off, h1, h2⟩
  · exact Or.inl h
  · exact Or.inr ⟨b, off, h1, h2.ext x⟩
theorem Row.ints {w : World} {b off cap n : Nat} {xs : List Int} (h : Row w b off xs) (hn : n = xs.length) : Ints w (.slice (some ⟨b, off, none⟩) n cap) xs := ⟨_, _, by rw [hn], Or.inr ⟨b, off, rfl, h⟩⟩

theorem Row.set {w : World} {b off k : Nat} {xs : List Int} (h : Row w b off xs) (hk : k < xs.length) (x : Int) : Row (w.setCell ⟨b, off + k, none⟩ (.int .u8 x)) b off (xs.set k x) :=
  ints_set h hk
/-- The first places where two lists of one length part. -/
theorem eq_of_getD {xs ys : List Int} (hl : xs.length = ys.length) (h : ∀ j, j < xs.length → xs.getD j 0 = ys.getD j 0) : xs = ys := by
  apply List.ext_getElem hl
  intro j h1 h2
  have := h j h1
  simpa [List.getD_eq_getElem?_getD, h1, h2] using this

set_option maxRecDepth 100000 in
set_option maxHeartbeats 1000000 in
theorem eqInts_any {w : World} {v u : Value} {xs ys : List Int} (h : Ints w v xs) (g : Ints w u ys) (hl : xs.length ≤ 1000000000000) :
    Calls Tryd.prog 7 #[v, u] w fun e w' => e = .returned (.bool (decide (xs = ys))) ∧ Ext w w' := by
  obtain ⟨sa, cap, rfl, hx⟩ := h
  obtain ⟨ta, dap, rfl, hy⟩ := g
  have HX := hide hx
  have HY := hide hy
  clear hx hy
  by_cases hle : xs.length = ys.length
  · have hle' : (xs.length : Int) = (ys.length : Int) := by omega
    go_enter Tryd.func7, Tryd.ntmps7
    go_wp2
    go_loopw [5] (fun i wr => ∃ k : Nat, i = .int .i64 k ∧ k ≤ xs.length ∧ Hid (∀ j, j < k → xs.getD j 0 = ys.getD j 0) ∧ Ext w wr) (fun i _ => xs.length - (intOf i).toNat)
    case atStart => exact ⟨0, rfl, by omega, fun j hj => absurd hj (Nat.not_lt_zero _), Ext.refl w⟩
    case round =>
      obtain ⟨k, rfl, hk, he, hw⟩ := hrel
      have HW := hide hw
      clear hw
      by_cases hlt : k < xs.length
      · rcases HX.out with h0 | ⟨b, off, rfl, hrow⟩
        · rw [h0] at hlt; simp at hlt
        rcases HY.out with h0 | ⟨b2, off2, rfl, hrow2⟩
        · rw [hle, h0] at hlt; simp at hlt
        have q0 := HW.out.box (hrow k hlt)
        have q1 := HW.out.box (hrow2 k (by omega))
        have hk0 : (0 : Int) ≤ (k : Int) := Int.natCast_nonneg _
        have hk1 : (k : Int) < (xs.length : Int) := by omega
        have hk2 : (k : Int) < (ys.length : Int) := by omega
        by_cases hq : xs.getD k 0 = ys.getD k 0
        · have he2 : Hid (∀ j, j < k + 1 → xs.getD j 0 = ys.getD j 0) := fun j hj => by
            by_cases e : j = k
            · rw [e]; exact hq
            · exact he.out j (by omega)
          rw [hq] at q0
          clear hq
          generalize ys.getD k 0 = x at q0 q1
          clear hrow hrow2
          go_wp2_with fail
          go_region
          all_goals go_wp2
          all_goals go_roundw
          all_goals first | exact ⟨k + 1, by go_num, by omega, he2, HW.out.drew⟩ | (simp [intOf]; omega)
        · have hne : ¬ xs = ys := fun e => hq (by rw [e])
          have hd : Hid (decide (xs = ys) = false) := decide_eq_false hne
          generalize xs.getD k 0 = x at q0 hq
          generalize ys.getD k 0 = y at q1 hq
          have hq2 : (x != y) = true := by simp [hq]
          clear hrow hrow2 hne
          go_wp2_with fail
          go_region
          all_goals go_wp2
          all_goals go_ret
          all_goals exact ⟨ret_bool hd.out.symm, HW.out.drew⟩
      · have hkk : k = xs.length := by omega
        subst hkk
        have hd : Hid (decide (xs = ys) = true) := decide_eq_true (eq_of_getD hle he.out)
        go_wp2
        go_ret
        exact ⟨ret_bool hd.out.symm, HW.out⟩
  · have hd : Hid (decide (xs = ys) = false) := decide_eq_false (fun e => hle (by rw [e]))
    have hne : ¬ (xs.length : Int) = (ys.length : Int) := by omega
    go_enter Tryd.func7, Tryd.ntmps7
    go_wp2
    go_ret
    exact ⟨ret_bool hd.out.symm, Ext.refl w⟩

/-- What mark lays: k, k + 1, .. -/
def counted (n : Nat) (k : Int) : List Int := (List.range n).map fun (j : Nat) => k + (j : Int)
theorem counted_len (n : Nat) (k : Int) : (counted n k).length = n := by simp [counted]
theorem counted_getD (n : Nat) (k : Int) (j : Nat) (hj : j < n) : (counted n k).getD j 0 = k + (j : Int) := by simp [counted, List.getD_eq_getElem?_getD, hj]

/-- Marked up to i. -/
def marked (xs : List Int) (k : Int) (i : Nat) : List Int := counted i k ++ xs.drop i
theorem marked_len (xs : List Int) (k : Int) (i : Nat) (hi : i ≤ xs.length) : (marked xs k i).length = xs.length := by
  unfold marked; simp [counted_len]; omega
theorem marked_set (xs : List Int) (k : Int) (i : Nat) (hi : i < xs.length) : (marked xs k i).set i (k + i) = marked xs k (i + 1) := by
  unfold marked counted
  apply List.ext_getElem?
  intro j
  simp only [List.getElem?_set, List.getElem?_append, List.length_append, List.length_map, List.length_range, List.length_drop, List.getElem?_map, List.getElem?_drop]
  by_cases e : i = j
  · subst e
    have : i + (xs.length - i) = xs.length := by omega
    simp [this, hi]
  · simp only [e, if_false]
    by_cases h : j < i
    · have : j < i + 1 := by omega
      simp [h, this]
    · have h3 : ¬ j < i + 1 := by omega
      have h5 : i + (j - i) = i + 1 + (j - (i + 1)) := by omega
      simp only [h, h3, if_false, h5]
theorem marked_zero (xs : List Int) (k : Int) : marked xs k 0 = xs := by simp [marked, counted]
theorem marked_full (xs : List Int) (k : Int) : marked xs k xs.length = counted xs.length k := by simp [marked]

set_option maxRecDepth 100000 in
set_option maxHeartbeats 1000000 in
theorem markInts_any {w : World} {b off cap : Nat} {xs : List Int} (h : Row w b off xs) (hf : ∀ o, w.frozen? ⟨b, o, none⟩ = false) (k : Int) (hk : k = 1) (hl : xs.length ≤ 200) :
    Calls Tryd.prog 8 #[.slice (some ⟨b, off, none⟩) xs.length cap, .int .i64 k] w fun e w' => e = .returned (.int .i64 (k + xs.length)) ∧ Row w' b off (counted xs.length k) ∧ Mut b w w' := by
  have H := hide h
  clear h
  go_enter Tryd.func8, Tryd.ntmps8
  go_wp2
  go_loopw [1, 5] (fun m i wr => ∃ j : Nat, i = .int .i64 j ∧ m = .int .i64 (k + j) ∧ j ≤ xs.length ∧ Row wr b off (marked xs k j) ∧ Mut b w wr) (fun m i _ => xs.length - (intOf i).toNat)
  case atStart => exact ⟨0, rfl, by simp, by omega, by rw [marked_zero]; exact H.out, Mut.refl _ _⟩
  case round =>
    obtain ⟨j, rfl, rfl, hj, hr, hm⟩ := hrel
    have HR := hide hr
    have HM := hide hm
    clear hr hm
    by_cases hlt : j < xs.length
    · have hml : j < (marked xs k j).length := by rw [marked_len xs k j hj]; exact hlt
      have q0 := HR.out j hml
      have qf := (HM.out.fz ⟨b, off + j, none⟩).trans (hf _)
      have hj0 : (0 : Int) ≤ (j : Int) := Int.natCast_nonneg _
      have hj1 : (j : Int) < (xs.length : Int) := by omega
      have wu : IntKind.u8.wrap (k + (j : Int)) = k + (j : Int) := by rw [wrap_u8']; omega
      have St := HR.out.set (k := j) hml (k + j)
      rw [marked_set xs k j hlt] at St
      have HSt := hide St
      clear St
      generalize (marked xs k j).getD j 0 = x at q0
      have Hk := hide hk
      clear hk
      go_wp2
      go_roundw
      · exact ⟨j + 1, by go_num, congrArg (Value.int .i64) (by have h9 := Hk.out; unfold wrap64; omega), by omega, HSt.out, HM.out.setCell _ _⟩
      · simp [intOf]; omega
    · have hjj : j = xs.length := by omega
      subst hjj
      go_wp2
      go_ret
      refine ⟨rfl, ?_, HM.out⟩
      have := HR.out
      rw [marked_full] at this
      exact this

set_option maxRecDepth 100000 in
set_option maxHeartbeats 1000000 in
theorem heldInts_any {w : World} {v : Value} {n : Nat} (k : Int) (h : Ints w v (counted n k)) (hk : k = 1) (hl : n ≤ 200) :
    Calls Tryd.prog 9 #[v, .int .i64 k] w fun e w' => e = .returned (.int .i64 (k + n)) ∧ w' = w := by
  obtain ⟨sa, cap, rfl, hx⟩ := h
  rw [counted_len]
  have HX := hide hx
  clear hx
  go_enter Tryd.func9, Tryd.ntmps9
  go_wp2
  go_loopw [1, 5] (fun m i wr => ∃ j : Nat, i = .int .i64 j ∧ m = .int .i64 (k + j) ∧ j ≤ n ∧ wr = w) (fun m i _ => n - (intOf i).toNat)
  case atStart => exact ⟨0, rfl, by simp, by omega, rfl⟩
  case round =>
    obtain ⟨j, rfl, rfl, hj, rfl⟩ := hrel
    by_cases hlt : j < n
    · rcases HX.out with h0 | ⟨b, off, rfl, hrow⟩
      · have := congrArg List.length h0
        rw [counted_len] at this; simp at this; omega
      have q0 := hrow j (by rw [counted_len]; exact hlt)
      rw [counted_getD n k j hlt] at q0
      clear hrow
      have hj0 : (0 : Int) ≤ (j : Int) := Int.natCast_nonneg _
      have hj1 : (j : Int) < (n : Int) := by omega
      have wu : IntKind.u8.wrap (k + (j : Int)) = k + (j : Int) := by rw [wrap_u8']; omega
      have Hk := hide hk
      clear hk
      go_wp2
      go_roundw
      · exact ⟨j + 1, by go_num, congrArg (Value.int .i64) (by have h9 := Hk.out; unfold wrap64; omega), by omega, by trivial⟩
      · simp [intOf]; omega
    · have hjj : j = n := by omega
      subst hjj
      go_wp2
      go_ret
      exact ⟨rfl, rfl⟩
end Go.Proofs.YthimfolcnphfoaaDoor
