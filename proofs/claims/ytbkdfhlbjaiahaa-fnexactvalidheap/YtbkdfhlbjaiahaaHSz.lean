import Derived.Test.YtbkdfhlbjaiahaaHBase
namespace Go.Proofs.Ytbkdfhlbjaiahaa
open Go.ChangeShapes Go.RowKit FL
set_option linter.unusedSimpArgs false
set_option linter.unusedVariables false
/-- No list is longer than Go's. -/
def SB (ss : List St) : Prop := ss.length ≤ 9223372036854775807 ∧ ∀ s ∈ ss, s.2.length ≤ 9223372036854775807
theorem SB.at {ss : List St} (h : SB ss) (j : Nat) (hj : j < ss.length) : (ss.getD j s0).2.length ≤ 9223372036854775807 := by
  rw [List.getD_eq_getElem?_getD, List.getElem?_eq_getElem hj]
  exact h.2 _ (List.getElem_mem hj)
def SzOk (left : Int) (good : Prop) (e : Ending) : Prop := ∃ r : Int, e = .returned (.int .i64 r) ∧ (r < 0 ∨ (0 ≤ r ∧ r ≤ left ∧ good))

set_option maxRecDepth 100000 in
theorem szCells_any (w : World) (sa : Option Addr) (n cap : Nat) (left : Int) (hl : 0 ≤ left ∧ left ≤ 1048576) (hn : (n : Int) ≤ 9223372036854775807) :
    Calls Try.prog 60 #[.slice sa n cap, .int .i64 left] w fun e w' => SzOk left (n ≤ 1048576) e ∧ w' = w := by
  by_cases h : left - (n : Int) < 0
  · go_enter Try.func60, Try.ntmps60
    go_wp2
    go_ret
    exact ⟨⟨_, rfl, Or.inl (by omega)⟩, rfl⟩
  · go_enter Try.func60, Try.ntmps60
    go_wp2
    go_ret
    exact ⟨⟨_, rfl, Or.inr ⟨by omega, by omega, by omega⟩⟩, rfl⟩

set_option maxRecDepth 100000 in
theorem szStore_any (w : World) (dt : Int) (sa : Option Addr) (n cap : Nat) (left : Int) (hl : 0 ≤ left ∧ left ≤ 1048576) (hn : (n : Int) ≤ 9223372036854775807) :
    Calls Try.prog 39 #[.agg #[.int .i64 dt, .slice sa n cap], .int .i64 left] w fun e w' => SzOk left (n ≤ 1048576) e ∧ Ext w w' := by
  have x0 : Hid (Ext w (w.alloc (.cells #[.int .i64 dt, .slice sa n cap] 85))) := (Ext.refl w).alloc _ _
  go_enter Try.func39, Try.ntmps39
  go_wp2_with fail
  refine (szCells_any _ sa n cap left hl hn).mono ?_
  rintro e w1 ⟨⟨r, rfl, hr⟩, rfl⟩
  rcases hr with hr | ⟨h1, h2, h3⟩
  · go_wp2
    go_ret
    exact ⟨⟨_, rfl, Or.inl (by omega)⟩, x0.out⟩
  · have hr : ¬ r < 0 := by omega
    go_wp2
    go_ret
    exact ⟨⟨_, rfl, Or.inr ⟨by omega, by omega, h3⟩⟩, x0.out⟩

set_option maxRecDepth 100000 in
set_option maxHeartbeats 1000000 in
theorem szStores_any {w : World} {v : Value} {ss : List St} (h : SV w v ss) (hb : SB ss) (left : Int) (hl : 0 ≤ left ∧ left ≤ 1048576) :
    Calls Try.prog 23 #[v, .int .i64 left] w fun e w' => SzOk left (SL ss 1048576) e ∧ Ext w w' := by
  obtain ⟨sa, cap, rfl, hx⟩ := h
  have HX := hide hx
  have hb1 := hb.1
  clear hx
  by_cases h0 : left - (ss.length : Int) < 0
  · go_enter Try.func23, Try.ntmps23
    go_wp2
    go_ret
    exact ⟨⟨_, rfl, Or.inl (by omega)⟩, Ext.refl w⟩
  · have h0' : ¬ left - (ss.length : Int) < 0 := h0
    have hsl : ss.length ≤ 1048576 := by omega
    go_enter Try.func23, Try.ntmps23
    go_wp2_with fail
    go_loopw [1, 5] (fun l i wr => ∃ (k : Nat) (x : Int), i = .int .i64 k ∧ l = .int .i64 x ∧ k ≤ ss.length ∧ (0 ≤ x ∧ x ≤ left) ∧ Hid (∀ j, j < k → (ss.getD j s0).2.length ≤ 1048576) ∧ Ext w wr) (fun l i _ => ss.length - (intOf i).toNat)
    case atStart => exact ⟨0, _, rfl, rfl, by omega, ⟨by omega, by omega⟩, fun j hj => absurd hj (Nat.not_lt_zero _), Ext.refl w⟩
    case round =>
      obtain ⟨k, x, rfl, rfl, hk, hx, hv, hw⟩ := hrel
      have HW := hide hw
      clear hw
      by_cases hlt : k < ss.length
      · rcases HX.out with h1 | ⟨b, off, rfl, hrow⟩
        · rw [h1] at hlt; simp at hlt
        obtain ⟨q0, u, q1, c1⟩ := (hrow.keep HW.out.bl) k hlt
        have hbk := hb.at k hlt
        have hk0 : (0 : Int) ≤ (k : Int) := Int.natCast_nonneg _
        have hk1 : (k : Int) < (ss.length : Int) := by omega
        have hvk : Hid ((ss.getD k s0).2.length ≤ 1048576 → ∀ j, j < k + 1 → (ss.getD j s0).2.length ≤ 1048576) := fun hh j hj => by
          by_cases e : j = k
          · rw [e]; exact hh
          · exact hv.out j (by omega)
        generalize (ss.getD k s0).1 = A at q0
        generalize (ss.getD k s0).2 = cs at c1 hbk hvk
        clear hrow
        obtain ⟨s1, d1, rfl, _⟩ := c1
        go_wp2_with fail
        refine (szStore_any _ A s1 cs.length d1 x ⟨hx.1, by omega⟩ (by omega)).mono ?_
        rintro e w2 ⟨⟨r, rfl, hr⟩, x2⟩
        have HW2 := hide (HW.out.trans x2)
        clear x2
        rcases hr with hr | ⟨r1, r2, r3⟩
        · go_wp2
          go_ret
          exact ⟨⟨_, rfl, Or.inl (by omega)⟩, HW2.out⟩
        · have hr : ¬ r < 0 := by omega
          go_wp2
          go_roundw
          · exact ⟨k + 1, r, by go_num, rfl, by omega, ⟨by omega, by omega⟩, hvk.out r3, HW2.out⟩
          · simp [intOf]; omega
      · have hkk : k = ss.length := by omega
        subst hkk
        go_wp2
        go_ret
        refine ⟨⟨_, rfl, Or.inr ⟨by omega, by omega, hsl, fun s hs => ?_⟩⟩, HW.out⟩
        obtain ⟨j, hj, rfl⟩ := List.getElem_of_mem hs
        have := hv.out j hj
        rw [List.getD_eq_getElem?_getD, List.getElem?_eq_getElem hj] at this
        exact this

set_option maxRecDepth 100000 in
theorem szHeap_any {w : World} {v : Value} {ss : List St} (h : SV w v ss) (hb : SB ss) (left : Int) (hl : 0 ≤ left ∧ left ≤ 1048576) :
    Calls Try.prog 6 #[.agg #[v], .int .i64 left] w fun e w' => SzOk left (SL ss 1048576) e ∧ Ext w w' := by
  obtain ⟨sa, cap, rfl, hx⟩ := h
  have x0 : Ext w (w.alloc (.cells #[.slice sa ss.length cap] 24)) := (Ext.refl w).alloc _ _
  have h : SV w (.slice sa ss.length cap) ss := ⟨sa, cap, rfl, hx⟩
  have HS := hide (szStores_any (h.keep x0.bl) hb left hl)
  have HX := hide x0
  clear hx h x0
  go_enter Try.func6, Try.ntmps6
  go_wp2_with fail
  refine HS.out.mono ?_
  rintro e w1 ⟨⟨r, rfl, hr⟩, x1⟩
  have HX1 := hide (HX.out.trans x1)
  clear x1
  rcases hr with hr | ⟨h1, h2, h3⟩
  · go_wp2
    go_ret
    exact ⟨⟨_, rfl, Or.inl (by omega)⟩, HX1.out⟩
  · have hr : ¬ r < 0 := by omega
    go_wp2
    go_ret
    exact ⟨⟨_, rfl, Or.inr ⟨by omega, by omega, h3⟩⟩, HX1.out⟩
end Go.Proofs.Ytbkdfhlbjaiahaa
