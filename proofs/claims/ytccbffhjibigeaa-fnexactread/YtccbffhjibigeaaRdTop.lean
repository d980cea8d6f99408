import Derived.Test.YtccbffhjibigeaaImplRd
import Derived.Test.YtccbffhjibigeaaSpecRd
namespace Go.Proofs.Ytccbffhjibigeaa
open Go.ChangeShapes Go.RowKit FL
set_option linter.unusedSimpArgs false
set_option linter.unusedVariables false
theorem readA_yes {ss : List St} {st : Int} {xs sv : List Int} {off : Int} (h : vHeap ss = true) (g : GoodA ss st xs sv off) : readA ss st xs sv off = readL ss st xs sv off := if_pos ⟨h, g⟩
theorem readA_no {ss : List St} {st : Int} {xs sv : List Int} {off : Int} (h : ¬ (vHeap ss = true ∧ GoodA ss st xs sv off)) : readA ss st xs sv off = [] := if_neg h

set_option maxRecDepth 100000 in
set_option maxHeartbeats 2000000 in
theorem sRd_any {w : World} {v vS vT : Value} {ss : List St} {xs sv : List Int} (h : SV w v ss) (hg : SG ss) (hl : SL ss 1048576) (st : Int) (hS : Ints w vS xs) (hT : Ints w vT sv) (off : Int) (lx : xs.length ≤ 1048576) (ls : sv.length ≤ 1048576) :
    Calls Try.prog 16 #[.agg #[v], .agg #[.int .i64 st, vS, vT, .int .i64 off]] w fun e w' => CellsOk w (readA ss st xs sv off) e w' := by
  obtain ⟨sa, cap, rfl, hx⟩ := h
  have h : SV w (.slice sa ss.length cap) ss := ⟨sa, cap, rfl, hx⟩
  have x0 : Ext w ((w.alloc (.cells #[.slice sa ss.length cap] 29)).alloc (.cells #[.int .i64 st, vS, vT, .int .i64 off] 42)) := ((Ext.refl w).alloc _ _).alloc _ _
  have y0 : Ext (w.alloc (.cells #[.slice sa ss.length cap] 29)) ((w.alloc (.cells #[.slice sa ss.length cap] 29)).alloc (.cells #[.int .i64 st, vS, vT, .int .i64 off] 42)) := (Ext.refl _).alloc _ _
  have n1 := fun j => new_cell w #[.slice sa ss.length cap] 29 w.heap.size rfl j
  have n2 := fun j => new_cell (w.alloc (.cells #[.slice sa ss.length cap] 29)) #[.int .i64 st, vS, vT, .int .i64 off] 42 (w.heap.size + 1) (by simp) j
  have C0 : Hid (((w.alloc (.cells #[.slice sa ss.length cap] 29)).alloc (.cells #[.int .i64 st, vS, vT, .int .i64 off] 42)).cell? ⟨w.heap.size, 0, none⟩ = some (.slice sa ss.length cap)) := y0.box (n1 0)
  have A0 : Hid (((w.alloc (.cells #[.slice sa ss.length cap] 29)).alloc (.cells #[.int .i64 st, vS, vT, .int .i64 off] 42)).cell? ⟨w.heap.size + 1, 0, none⟩ = some (.int .i64 st)) := n2 0
  have A1 : Hid (((w.alloc (.cells #[.slice sa ss.length cap] 29)).alloc (.cells #[.int .i64 st, vS, vT, .int .i64 off] 42)).cell? ⟨w.heap.size + 1, 1, none⟩ = some vS) := n2 1
  have A2 : Hid (((w.alloc (.cells #[.slice sa ss.length cap] 29)).alloc (.cells #[.int .i64 st, vS, vT, .int .i64 off] 42)).cell? ⟨w.heap.size + 1, 2, none⟩ = some vT) := n2 2
  have A3 : Hid (((w.alloc (.cells #[.slice sa ss.length cap] 29)).alloc (.cells #[.int .i64 st, vS, vT, .int .i64 off] 42)).cell? ⟨w.heap.size + 1, 3, none⟩ = some (.int .i64 off)) := n2 3
  have X0 := hide x0
  have HH := hide (h.keep x0.bl)
  have HS := hide (hS.ext x0)
  have HT := hide (hT.ext x0)
  have hva := hide (sVA_any HH.out hg hl st HS.out HT.out off lx ls)
  clear hx h x0 y0 n1 n2
  obtain ⟨s1, d1, rfl, _⟩ := hS
  obtain ⟨s2, d2, rfl, _⟩ := hT
  generalize hW0 : (w.alloc (.cells #[.slice sa ss.length cap] 29)).alloc (.cells #[.int .i64 st, .slice s1 xs.length d1, .slice s2 sv.length d2, .int .i64 off] 42) = W0 at C0 A0 A1 A2 A3 X0 HH HS HT hva
  have HW0 := hide hW0
  clear hW0
  by_cases hV : vHeap ss = true ∧ GoodA ss st xs sv off
  · have hb : (vHeap ss && decide (GoodA ss st xs sv off)) = true := by rw [hV.1, decide_eq_true hV.2]; rfl
    rw [hb] at hva
    have HR := hide (readA_yes hV.1 hV.2)
    have HV := hide hV.2
    clear hV hb
    go_enter Try.func16, Try.ntmps16
    go_wp2_with (first | (go_at_call 12; rw [HW0.out]; refine hva.out.mono ?_; rintro e w1 ⟨rfl, x1⟩; have c0' := Bel.box x1 C0.out; have a0' := Bel.box x1 A0.out; have a1' := Bel.box x1 A1.out; have a2' := Bel.box x1 A2.out; have a3' := Bel.box x1 A3.out; have HG := hide (l4Read_any (HH.out.keep x1) hl st (HS.out.below x1) (HT.out.below x1) off HV.out); have X1 := hide (Bel.tr X0.out.bl x1); clear x1) | (go_at_call 34; refine HG.out.mono ?_; intro e w2 hok; obtain ⟨sa2, cap2, rfl, hok2⟩ := hok))
    go_ret
    rw [HR.out]
    exact CellsOk.from X1.out ⟨sa2, cap2, rfl, hok2⟩
  · have hb : (vHeap ss && decide (GoodA ss st xs sv off)) = false := by
      cases h1 : vHeap ss with
      | false => rfl
      | true => rw [Bool.true_and]; exact decide_eq_false (fun q => hV ⟨h1, q⟩)
    rw [hb] at hva
    have HR := hide (readA_no hV)
    clear hV hb
    go_enter Try.func16, Try.ntmps16
    go_wp2_with (go_at_call 12; rw [HW0.out]; refine hva.out.mono ?_; rintro e w1 ⟨rfl, x1⟩)
    go_ret
    exact cells_nil HR.out _ _ (Bel.tr X0.out.bl (Bel.tr x1 ((Ext.refl w1).alloc _ _).bl))

set_option maxRecDepth 100000 in
set_option maxHeartbeats 2000000 in
theorem iRd_any {w : World} {v vS vT : Value} {ss : List St} {xs sv : List Int} (h : SV w v ss) (hg : SG ss) (hl : SL ss 1048576) (st : Int) (hS : Ints w vS xs) (hT : Ints w vT sv) (off : Int) (lx : xs.length ≤ 1048576) (ls : sv.length ≤ 1048576) :
    Calls Try.prog 17 #[.agg #[v], .agg #[.int .i64 st, vS, vT, .int .i64 off]] w fun e w' => CellsOk w (readA ss st xs sv off) e w' := by
  obtain ⟨sa, cap, rfl, hx⟩ := h
  have h : SV w (.slice sa ss.length cap) ss := ⟨sa, cap, rfl, hx⟩
  have x0 : Ext w (((w.alloc (.cells #[.slice sa ss.length cap] 29)).alloc (.cells #[.int .i64 st, vS, vT, .int .i64 off] 42)).alloc (.cells #[.int .i64 st, vS, vT, .int .i64 off] 42)) := (((Ext.refl w).alloc _ _).alloc _ _).alloc _ _
  have n3 := fun j => new_cell ((w.alloc (.cells #[.slice sa ss.length cap] 29)).alloc (.cells #[.int .i64 st, vS, vT, .int .i64 off] 42)) #[.int .i64 st, vS, vT, .int .i64 off] 42 (w.heap.size + 1 + 1) (by simp) j
  have ho := hide (open_any (ga := w.heap.size + 1 + 1) (oa := 0) (h.keep x0.bl) hg hl st (hS.ext x0) (hT.ext x0) off lx ls (n3 0) (n3 1) (n3 2) (n3 3))
  have X0 := hide x0
  clear hx h x0 n3
  obtain ⟨s1, d1, rfl, _⟩ := hS
  obtain ⟨s2, d2, rfl, _⟩ := hT
  go_enter Try.func17, Try.ntmps17
  go_wp2_with fail
  refine ho.out.mono ?_
  rintro e w1 ⟨v1, rfl, x1, hv⟩
  have X1 := hide (Bel.tr X0.out.bl x1)
  clear ho X0 x1
  rcases hv with ⟨hne, rfl⟩ | ⟨he, g, gcap, u, rfl, hcv, hcell⟩
  · have HR : Hid (readA ss st xs sv off = []) := readA_no (fun q => hne (by unfold openL; rw [if_pos q.1, if_pos q.2]))
    generalize openL ss st xs sv off = C at hne ⊢
    have hne' : (C == 0) = false := by simp [hne]
    have hne2 : (C != 0) = true := by simp [hne]
    go_wp2
    go_ret
    exact cells_nil HR.out _ _ (Bel.tr X1.out ((Ext.refl w1).alloc _ _).bl)
  · have hV : vHeap ss = true ∧ GoodA ss st xs sv off := by
      unfold openL at he
      by_cases h1 : vHeap ss = true
      · rw [if_pos h1] at he
        by_cases h2 : GoodA ss st xs sv off
        · exact ⟨h1, h2⟩
        · rw [if_neg h2] at he; omega
      · rw [if_neg h1] at he; omega
    have HR := hide (readA_yes hV.1 hV.2)
    rw [he]
    obtain ⟨su, cu, rfl, hcx⟩ := hcv
    have hlc := hl.at st.toNat (by have := hV.2.1; omega)
    have Hrd := hide (callsIn_wide.1 (read_in 3 (Nat.le_refl _) xs sv off st (ss.getD st.toNat s0).1 (w := w1) (su := su) (cu := cu) (cs := (ss.getD st.toNat s0).2) ⟨su, cu, rfl, hcx⟩ hlc hV.2.2.1 hV.2.2.2))
    have f0 := hcell 0 _ rfl
    have f1 := hcell 1 _ rfl
    have f2 := hcell 2 _ rfl
    have f3 := hcell 3 _ rfl
    have f4 := hcell 4 _ rfl
    have f5 := hcell 5 _ rfl
    have f6 := hcell 6 _ rfl
    have f7 := hcell 7 _ rfl
    have f8 := hcell 8 _ rfl
    have f9 := hcell 9 _ rfl
    have f10 := hcell 10 _ rfl
    have f11 := hcell 11 _ rfl
    have f12 := hcell 12 _ rfl
    clear hcell hV he hcx
    have HL : Hid (readL ss st xs sv off = (offsL xs sv off).map fun p => (ss.getD st.toNat s0).2.getD p.toNat k0) := rfl
    generalize (ss.getD st.toNat s0).1 = DT at *
    generalize (ss.getD st.toNat s0).2 = cs at *
    generalize xs.getD 0 0 = a0 at *
    generalize xs.getD 1 0 = a1 at *
    generalize xs.getD 2 0 = a2 at *
    generalize xs.getD 3 0 = a3 at *
    generalize sv.getD 0 0 = b0 at *
    generalize sv.getD 1 0 = b1 at *
    generalize sv.getD 2 0 = b2 at *
    generalize sv.getD 3 0 = b3 at *
    go_wp2_with fail
    refine Hrd.out.mono ?_
    intro e w2 hok
    obtain ⟨sa2, cap2, rfl, hok2⟩ := hok
    go_wp2
    go_ret
    rw [HR.out, HL.out]
    exact CellsOk.from X1.out ⟨sa2, cap2, by rw [List.length_map]; rfl, hok2⟩
end Go.Proofs.Ytccbffhjibigeaa
