import Derived.Test.YtbkdfhlbjaiahaaArrB
namespace Go.Proofs.Ytbkdfhlbjaiahaa
open Go.ChangeShapes Go.RowKit FL
set_option linter.unusedSimpArgs false
set_option linter.unusedVariables false

set_option maxRecDepth 100000 in
set_option maxHeartbeats 2000000 in
theorem sVA_any {w : World} {v vS vT : Value} {ss : List St} {xs sv : List Int} (h : SV w v ss) (hg : SG ss) (hl : SL ss 1048576) (st : Int) (hS : Ints w vS xs) (hT : Ints w vT sv) (off : Int) (lx : xs.length ≤ 1048576) (ls : sv.length ≤ 1048576) :
    Calls Try.prog 12 #[.agg #[v], .agg #[.int .i64 st, vS, vT, .int .i64 off]] w fun e w' => e = .returned (.bool (vHeap ss && (dcGoodA ss st xs sv off))) ∧ Bel w w' := by
  obtain ⟨sa, cap, rfl, hx⟩ := h
  have h : SV w (.slice sa ss.length cap) ss := ⟨sa, cap, rfl, hx⟩
  have x0 : Ext w ((w.alloc (.cells #[.slice sa ss.length cap] 29)).alloc (.cells #[.int .i64 st, vS, vT, .int .i64 off] 42)) := ((Ext.refl w).alloc _ _).alloc _ _
  have y0 : Ext (w.alloc (.cells #[.slice sa ss.length cap] 29)) ((w.alloc (.cells #[.slice sa ss.length cap] 29)).alloc (.cells #[.int .i64 st, vS, vT, .int .i64 off] 42)) := (Ext.refl _).alloc _ _
  have n1 := fun j => new_cell w #[.slice sa ss.length cap] 29 w.heap.size rfl j
  have n2 := fun j => new_cell (w.alloc (.cells #[.slice sa ss.length cap] 29)) #[.int .i64 st, vS, vT, .int .i64 off] 42 (w.heap.size + 1) (by simp) j
  have C0 : Hid (((w.alloc (.cells #[.slice sa ss.length cap] 29)).alloc (.cells #[.int .i64 st, vS, vT, .int .i64 off] 42)).cell? ⟨w.heap.size, 0, none⟩ = some (.slice sa ss.length cap)) := y0.box (n1 0)
  have A0 : Hid (((w.alloc (.cells #[.slice sa ss.length cap] 29)).alloc (.cells #[.int .i64 st, vS, vT, .int .i64 off] 42)).cell? ⟨w.heap.size + 1, 0, none⟩ = some (.int .i64 st)) := n2 0
  have A1 : Hid (((w.alloc (.cells #[.slice sa ss.length cap] 29)).alloc (.cells #[.int .i64 st, vS, vT, .int .i64 off] 42)).cell? ⟨w.heap.size + 1, 1, none⟩ = some vS) := n2 1
  have A2 : Hid (((w.alloc (.cells #[.slice sa ss.length cap] 29)).alloc (.cells #[.int .i64 st, vS, vT, .int .i64 off] 42)).cell? ⟨w.heap.size + 1, 2, none⟩ = some vT) := n2 2
  have A3 : Hid (((w.alloc (.cells #[.slice sa ss.length cap] 29)).alloc (.cells #[.int .i64 st, vS, vT, .int .i64 off] 42)).cell? ⟨w.heap.size + 1, 3, none⟩ = some (.int .i64 off)) := n2 3
  have X0 := hide x0
  have HH := hide (h.keep x0.bl)
  have HS := hide (hS.ext x0)
  have HT := hide (hT.ext x0)
  have hvh := hide (sVH_any HH.out hg hl)
  clear hx h x0 y0 n1 n2
  obtain ⟨s1, d1, rfl, _⟩ := hS
  obtain ⟨s2, d2, rfl, _⟩ := hT
  generalize hW0 : (w.alloc (.cells #[.slice sa ss.length cap] 29)).alloc (.cells #[.int .i64 st, .slice s1 xs.length d1, .slice s2 sv.length d2, .int .i64 off] 42) = W0 at C0 A0 A1 A2 A3 X0 HH HS HT hvh
  have HW0 := hide hW0
  clear hW0
  cases hV : vHeap ss with
  | false =>
    rw [hV] at hvh
    go_enter Try.func12, Try.ntmps12
    go_wp2_with (go_at_call 7; rw [HW0.out]; refine hvh.out.mono ?_; rintro e w1 ⟨rfl, x1⟩)
    go_ret
    exact ⟨rfl, (X0.out.trans x1).bl⟩
  | true =>
    rw [hV] at hvh
    go_enter Try.func12, Try.ntmps12
    go_wp2_with (first | (go_at_call 7; rw [HW0.out]; refine hvh.out.mono ?_; rintro e w1 ⟨rfl, x1⟩; have c0' := x1.box C0.out; have a0' := x1.box A0.out; have a1' := x1.box A1.out; have a2' := x1.box A2.out; have a3' := x1.box A3.out; have HG := hide (l4Good_any (HH.out.keep x1.bl) hl st (HS.out.ext x1) (HT.out.ext x1) off lx ls); have X1 := hide (X0.out.trans x1); clear x1) | (go_at_call 30; refine HG.out.mono ?_; rintro e w2 ⟨rfl, x2⟩))
    go_ret
    exact ⟨rfl, Bel.tr X1.out.bl x2⟩
end Go.Proofs.Ytbkdfhlbjaiahaa
