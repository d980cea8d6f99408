import Derived.Test.YtbkdfhlbjaiahaaOpn
namespace Go.Proofs.Ytbkdfhlbjaiahaa
open Go.ChangeShapes Go.RowKit FL
set_option linter.unusedSimpArgs false
set_option linter.unusedVariables false
theorem openL_zero (ss : List St) (st : Int) (xs sv : List Int) (off : Int) : (openL ss st xs sv off == 0) = (vHeap ss && (dcGoodA ss st xs sv off)) := by
  unfold openL
  cases h : vHeap ss with
  | false => simp
  | true =>
    by_cases g : GoodA ss st xs sv off
    · simp [if_pos g, dcGoodA_t g]
    · simp [if_neg g, dcGoodA_f g]

set_option maxRecDepth 100000 in
set_option maxHeartbeats 2000000 in
theorem iVA_any {w : World} {v vS vT : Value} {ss : List St} {xs sv : List Int} (h : SV w v ss) (hg : SG ss) (hl : SL ss 1048576) (st : Int) (hS : Ints w vS xs) (hT : Ints w vT sv) (off : Int) (lx : xs.length ≤ 1048576) (ls : sv.length ≤ 1048576) :
    Calls Try.prog 14 #[.agg #[v], .agg #[.int .i64 st, vS, vT, .int .i64 off]] w fun e w' => e = .returned (.bool (vHeap ss && (dcGoodA ss st xs sv off))) ∧ Bel w w' := by
  obtain ⟨sa, cap, rfl, hx⟩ := h
  have h : SV w (.slice sa ss.length cap) ss := ⟨sa, cap, rfl, hx⟩
  have x0 : Ext w (((w.alloc (.cells #[.slice sa ss.length cap] 29)).alloc (.cells #[.int .i64 st, vS, vT, .int .i64 off] 42)).alloc (.cells #[.int .i64 st, vS, vT, .int .i64 off] 42)) := (((Ext.refl w).alloc _ _).alloc _ _).alloc _ _
  have n3 := fun j => new_cell ((w.alloc (.cells #[.slice sa ss.length cap] 29)).alloc (.cells #[.int .i64 st, vS, vT, .int .i64 off] 42)) #[.int .i64 st, vS, vT, .int .i64 off] 42 (w.heap.size + 1 + 1) (by simp) j
  have ho := hide (open_any (ga := w.heap.size + 1 + 1) (oa := 0) (h.keep x0.bl) hg hl st (hS.ext x0) (hT.ext x0) off lx ls (n3 0) (n3 1) (n3 2) (n3 3))
  have X0 := hide x0
  have hz := hide (openL_zero ss st xs sv off)
  clear hx h x0 n3
  obtain ⟨s1, d1, rfl, _⟩ := hS
  obtain ⟨s2, d2, rfl, _⟩ := hT
  go_enter Try.func14, Try.ntmps14
  go_wp2_with fail
  refine ho.out.mono ?_
  rintro e w1 ⟨v1, rfl, x1, hv⟩
  clear hv
  generalize openL ss st xs sv off = C at hz ⊢
  go_wp2
  go_ret
  exact ⟨ret_bool hz.out, Bel.tr X0.out.bl x1⟩
end Go.Proofs.Ytbkdfhlbjaiahaa
