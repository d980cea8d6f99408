import Derived.Test.YtiekkninnjffpaaIter2
namespace Go.Proofs.Ytiekkninnjffpaa
open Go.ChangeShapes Go.RowKit Go.Shelf
set_option linter.unusedSimpArgs false
set_option linter.unusedVariables false

theorem list_nil {w w' : World} {L : List Int} (h : L = []) (sa : Option Addr) (cap : Nat) (hB : Below w.heap.size w w') : ListOk w L (.returned (.slice sa 0 cap)) w' := by
  subst h
  exact ⟨sa, cap, rfl, Or.inl rfl, hB⟩
theorem ListOk.from {w w1 w' : World} {L : List Int} {e : Ending} (hB : Below w.heap.size w w1) (h : ListOk w1 L e w') : ListOk w L e w' := by
  obtain ⟨sa, cap, h1, h2, h3⟩ := h
  refine ⟨sa, cap, h1, ?_, hB.trans (h3.mono hB.size)⟩
  rcases h2 with h2 | ⟨g, h4, h5, h6⟩
  · exact Or.inl h2
  · exact Or.inr ⟨g, h4, Nat.le_trans hB.size h5, h6⟩

set_option maxRecDepth 100000 in
set_option maxHeartbeats 1000000 in
/-- l2Offsets. -/
theorem l2Offsets_any {w : World} {vS vT : Value} {xs ss : List Int} (hS : Ints w vS xs) (hT : Ints w vT ss) (off : Int) (hv : ValidV xs ss off) :
    Calls Try.prog 58 #[.agg #[vS, vT, .int .i64 off]] w fun e w' => ListOk w (offsL xs ss off) e w' := by
  obtain ⟨hg, hl, ho, hin, _⟩ := hv
  have x0 : Ext w (w.alloc (.cells #[vS, vT, .int .i64 off] 27)) := (Ext.refl w).alloc _ _
  have X0 := hide x0.bl
  have HS := hide (hS.ext x0)
  have HT := hide (hT.ext x0)
  have n1 := fun j => new_cell w #[vS, vT, .int .i64 off] 27 w.heap.size rfl j
  have k0 := n1 0
  have k1 := n1 1
  have k2 := n1 2
  clear n1 x0
  obtain ⟨sa, cap, rfl, _⟩ := hS
  obtain ⟨ta, dap, rfl, _⟩ := hT
  have hcn : cntL xs = prod xs := if_pos hg
  have hx4 := hg.1
  have hpb := prod_bd xs xs.length hg.1 (Nat.le_refl _) hg.2.1
  rw [List.take_length] at hpb
  have hOz : Hid (prod xs = 0 → offsL xs ss off = []) := fun h => by unfold offsL; rw [if_pos h]
  have hpl : Hid (prod xs ≠ 0 → ∀ w, Ints w (.slice sa xs.length cap) xs → Ints w (.slice ta ss.length dap) ss → Calls Try.prog 52 #[.agg #[.slice sa xs.length cap, .slice ta ss.length dap, .int .i64 off], .int .i64 0, .int .i64 off] w fun e w' => ListOk w (offsL xs ss off) e w') := fun hz w h1 h2 => by
    have hst : ∀ s ∈ ss, -4096 ≤ s ∧ s ≤ 4096 := fun s hs => by
      obtain ⟨j, hj, rfl⟩ := getD_mem hs
      exact hin j hj
    have hpln : plen xs ≤ 4096 := by
      have h1 := prod_plen (fun m hm => (good_nonneg hg m hm).1)
      have h2 := hg.2.2
      omega
    have key := places_any xs ss hl.symm hx4 (good_pos hg hz) hst off _ _ xs.length 0 (by omega) w off h1 h2 (by rw [List.drop_zero]; exact hpln) (by omega)
    rw [List.drop_zero, List.drop_zero] at key
    unfold offsL
    rw [if_neg hz]
    exact key
  have Hcnt := hide (l2Count_any HS.out (by omega))
  rw [hcn] at Hcnt
  have Hg := hide hg
  clear hg hcn hin hl
  go_enter Try.func58, Try.ntmps58
  go_wp2_with fail
  generalize hW0 : w.alloc (.cells #[.slice sa xs.length cap, .slice ta ss.length dap, .int .i64 off] 27) = W0 at X0 HS HT k0 k1 k2 Hcnt ⊢
  clear hW0
  refine Hcnt.out.mono ?_
  clear Hcnt
  rintro e w' ⟨rfl, rfl⟩
  generalize prod xs = P at *
  by_cases hz : P = 0
  · have HO := hide (hOz.out hz)
    subst hz
    clear hpl hOz
    go_wp2
    go_ret
    exact list_nil HO.out _ _ (by first | exact X0.out | exact X0.out.alloc X0.out.size _)
  · have HP := hide (hpl.out hz _ HS.out HT.out)
    have hPn : (P == 0) = false := by simp [hz]
    clear hpl hOz
    go_wp2_with (go_at_call 52; refine HP.out.mono ?_; intro e w2 hok; obtain ⟨sa2, cap2, rfl, hok2⟩ := hok)
    go_ret
    exact ListOk.from X0.out ⟨sa2, cap2, rfl, hok2⟩

/-- The answer of Offsets. -/
def offsA (xs ss : List Int) (off : Int) : List Int := if ValidV xs ss off then offsL xs ss off else []

set_option maxRecDepth 100000 in
set_option maxHeartbeats 1000000 in
/-- spec.Offsets. -/
theorem sOF_any {w : World} {vS vT : Value} {xs ss : List Int} (hS : Ints w vS xs) (hT : Ints w vT ss) (off : Int) (lx : xs.length ≤ 1048576) (ls : ss.length ≤ 1048576) :
    Calls Try.prog 30 #[.agg #[vS, vT, .int .i64 off]] w fun e w' => ListOk w (offsA xs ss off) e w' := by
  have x0 : Ext w (w.alloc (.cells #[vS, vT, .int .i64 off] 27)) := (Ext.refl w).alloc _ _
  have X0 := hide x0.bl
  have HS := hide (hS.ext x0)
  have HT := hide (hT.ext x0)
  have n1 := fun j => new_cell w #[vS, vT, .int .i64 off] 27 w.heap.size rfl j
  have k0 := n1 0
  have k1 := n1 1
  have k2 := n1 2
  clear n1 x0
  obtain ⟨sa, cap, rfl, _⟩ := hS
  obtain ⟨ta, dap, rfl, _⟩ := hT
  go_enter Try.func30, Try.ntmps30
  go_wp2_with fail
  generalize hW0 : w.alloc (.cells #[.slice sa xs.length cap, .slice ta ss.length dap, .int .i64 off] 27) = W0 at X0 HS HT k0 k1 k2 ⊢
  clear hW0
  refine (sVV_any HS.out HT.out off lx ls).mono ?_
  rintro e W1 ⟨rfl, B1⟩
  have X1 := hide (X0.out.trans (B1.mono X0.out.size))
  have HS1 := hide (HS.out.below B1)
  have HT1 := hide (HT.out.below B1)
  have d0 := B1.cell (p := ⟨w.heap.size, 0, none⟩) (cell_lt k0)
  have d1 := B1.cell (p := ⟨w.heap.size, 1, none⟩) (cell_lt k1)
  have d2 := B1.cell (p := ⟨w.heap.size, 2, none⟩) (cell_lt k2)
  rw [k0] at d0
  rw [k1] at d1
  rw [k2] at d2
  clear k0 k1 k2 X0 B1 HS HT
  by_cases hv : ValidV xs ss off
  · have hA : Hid (offsA xs ss off = offsL xs ss off) := if_pos hv
    have HP := hide (l2Offsets_any HS1.out HT1.out off hv)
    rw [dcValidV_t hv]
    clear hv
    go_wp2_with (go_at_call 58; refine HP.out.mono ?_; intro e w2 hok; obtain ⟨sa2, cap2, rfl, hok2⟩ := hok)
    go_ret
    rw [hA.out]
    exact ListOk.from X1.out ⟨sa2, cap2, rfl, hok2⟩
  · have hA : Hid (offsA xs ss off = []) := if_neg hv
    rw [dcValidV_f hv]
    clear hv
    go_wp2
    go_ret
    exact list_nil hA.out _ _ (by first | exact X1.out | exact X1.out.alloc X1.out.size _)
end Go.Proofs.Ytiekkninnjffpaa
