import Derived.Test.YtbkdfhlbjaiahaaSpecOF
import Derived.Test.YtbkdfhlbjaiahaaHValid
namespace Go.Proofs.Ytbkdfhlbjaiahaa
open Go.ChangeShapes Go.RowKit FL
set_option linter.unusedSimpArgs false
set_option linter.unusedVariables false
/-- An array that is good in a heap. -/
abbrev GoodA (ss : List St) (st : Int) (xs sv : List Int) (off : Int) : Prop := (0 ≤ st ∧ st < ss.length) ∧ ValidV xs sv off ∧ ∀ p ∈ offsL xs sv off, p < ((ss.getD st.toNat s0).2.length : Int)
def dcGoodA (ss : List St) (st : Int) (xs sv : List Int) (off : Int) : Bool := decide (GoodA ss st xs sv off)
theorem dcGoodA_t {ss : List St} {st : Int} {xs sv : List Int} {off : Int} (h : GoodA ss st xs sv off) : dcGoodA ss st xs sv off = true := decide_eq_true h
theorem dcGoodA_f {ss : List St} {st : Int} {xs sv : List Int} {off : Int} (h : ¬ GoodA ss st xs sv off) : dcGoodA ss st xs sv off = false := decide_eq_false h
theorem offs_len {xs sv : List Int} {off : Int} (hv : ValidV xs sv off) : (offsL xs sv off).length ≤ 4096 := by
  unfold offsL
  split
  · simp
  · rw [places_len xs sv off hv.2.1.symm]
    have h1 := prod_plen (fun m hm => (good_nonneg hv.1 m hm).1)
    have h2 := hv.1.2.2
    omega

set_option maxRecDepth 100000 in
set_option maxHeartbeats 2000000 in
theorem l4Good_any {w : World} {v vS vT : Value} {ss : List St} {xs sv : List Int} (h : SV w v ss) (hl : SL ss 1048576) (st : Int) (hS : Ints w vS xs) (hT : Ints w vT sv) (off : Int) (lx : xs.length ≤ 1048576) (ls : sv.length ≤ 1048576) :
    Calls Try.prog 30 #[.agg #[v], .agg #[.int .i64 st, vS, vT, .int .i64 off]] w fun e w' => e = .returned (.bool (dcGoodA ss st xs sv off)) ∧ Bel w w' := by
  obtain ⟨sa, cap, rfl, hx⟩ := h
  have h : SV w (.slice sa ss.length cap) ss := ⟨sa, cap, rfl, hx⟩
  have x0 : Ext w ((w.alloc (.cells #[.slice sa ss.length cap] 29)).alloc (.cells #[.int .i64 st, vS, vT, .int .i64 off] 42)) := ((Ext.refl w).alloc _ _).alloc _ _
  have y0 : Ext (w.alloc (.cells #[.slice sa ss.length cap] 29)) ((w.alloc (.cells #[.slice sa ss.length cap] 29)).alloc (.cells #[.int .i64 st, vS, vT, .int .i64 off] 42)) := (Ext.refl _).alloc _ _
  have n1 := fun j => new_cell w #[.slice sa ss.length cap] 29 w.heap.size rfl j
  have n2 := fun j => new_cell (w.alloc (.cells #[.slice sa ss.length cap] 29)) #[.int .i64 st, vS, vT, .int .i64 off] 42 (w.heap.size + 1) (by simp) j
  have C0 : Hid (((w.alloc (.cells #[.slice sa ss.length cap] 29)).alloc (.cells #[.int .i64 st, vS, vT, .int .i64 off] 42)).cell? ⟨w.heap.size, 0, none⟩ = some (.slice sa ss.length cap)) := y0.box (n1 0)
  have A0 : Hid (((w.alloc (.cells #[.slice sa ss.length cap] 29)).alloc (.cells #[.int .i64 st, vS, vT, .int .i64 off] 42)).cell? ⟨w.heap.size + 1, 0, none⟩ = some (.int .i64 st)) := n2 0
  have A1 : Hid (((w.alloc (.cells #[.slice sa ss.length cap] 29)).alloc (.cells #[.int .i64 st, vS, vT, .int .i64 off] 42)).cell? ⟨w.heap.size + 1, 1, none⟩ = some vS) := n2 1
  have A2 : Hid (((w.alloc (.cells #[.slice sa ss.length cap] 29)).alloc (.cells #[.int .i64 st, vS, vT, .int .i64 off] 42)).cell? ⟨w.heap.size + 1, 2, none⟩ = some vT) := n2 2
  have A3 : Hid (((w.alloc (.cells #[.slice sa ss.length cap] 29)).alloc (.cells #[.int .i64 st, vS, vT, .int .i64 off] 42)).cell? ⟨w.heap.size + 1, 3, none⟩ = some (.int .i64 off)) := n2 3
  have X0 := hide x0.bl
  have HH := hide (h.keep x0.bl)
  have HS := hide (hS.ext x0)
  have HT := hide (hT.ext x0)
  have hl1 := hl.1
  clear hx h x0 y0 n1 n2
  obtain ⟨s1, d1, rfl, _⟩ := hS
  obtain ⟨s2, d2, rfl, _⟩ := hT
  by_cases h1 : st < 0
  · have hno : Hid ((dcGoodA ss st xs sv off) = false) := decide_eq_false (fun q => by have := q.1.1; omega)
    have hd : decide (st < 0) = true := decide_eq_true h1
    go_enter Try.func30, Try.ntmps30
    go_wp2
    go_ret
    exact ⟨ret_bool hno.out.symm, X0.out⟩
  have hd1 : decide (st < 0) = false := decide_eq_false h1
  by_cases h2 : (ss.length : Int) ≤ st
  · have hno : Hid ((dcGoodA ss st xs sv off) = false) := decide_eq_false (fun q => by have := q.1.2; omega)
    have hd : decide ((ss.length : Int) ≤ st) = true := decide_eq_true h2
    go_enter Try.func30, Try.ntmps30
    go_wp2
    go_ret
    exact ⟨ret_bool hno.out.symm, X0.out⟩
  have hd2 : decide ((ss.length : Int) ≤ st) = false := decide_eq_false h2
  obtain ⟨k, rfl⟩ : ∃ k : Nat, st = (k : Int) := ⟨st.toNat, by omega⟩
  have hk : k < ss.length := by omega
  have hgv : Hid (GoodA ss k xs sv off ↔ ValidV xs sv off ∧ ∀ p ∈ offsL xs sv off, p < ((ss.getD k s0).2.length : Int)) := by
    show GoodA ss k xs sv off ↔ _
    unfold GoodA
    rw [Int.toNat_natCast]
    exact ⟨fun q => q.2, fun q => ⟨⟨by omega, by omega⟩, q⟩⟩
  have hvv := hide (sVV_any HS.out HT.out off lx ls)
  generalize hW0 : (w.alloc (.cells #[.slice sa ss.length cap] 29)).alloc (.cells #[.int .i64 (k : Int), .slice s1 xs.length d1, .slice s2 sv.length d2, .int .i64 off] 42) = W0 at C0 A0 A1 A2 A3 X0 HH HS HT hvv
  have HW0 := hide hW0
  clear hW0
  by_cases hv : ValidV xs sv off
  · have hdv : (dcValidV xs sv off) = true := dcValidV_t hv
    rw [hdv] at hvv
    have HV := hide hv
    clear hv
    go_enter Try.func30, Try.ntmps30
    go_wp2_with (go_at_call 50; rw [HW0.out]; refine hvv.out.mono ?_; rintro e w1 ⟨rfl, x1⟩; have c0' := x1.box C0.out; have a0' := x1.box A0.out; have a1' := x1.box A1.out; have a2' := x1.box A2.out; have a3' := x1.box A3.out)
    have hv := HV.out
    have HS1 := hide (HS.out.below x1)
    have HT1 := hide (HT.out.below x1)
    have HH1 := hide (HH.out.keep x1)
    have X1 := hide (Bel.tr X0.out x1)
    have hOl := offs_len hv
    refine (l2Offsets_any HS1.out HT1.out off hv).mono ?_
    rintro e w2 ⟨so, co, rfl, hO, x2⟩
    have c2' := Bel.box x2 c0'
    have a2'' := Bel.box x2 a0'
    have HH2 := hide (HH1.out.keep x2)
    have X2 := hide (Bel.tr X1.out x2)
    have HO := hide hO
    clear x1 x2 hO c0' a0' a1' a2' a3' HS1 HT1 HH1 X1 HS HT HH X0 C0 A0 A1 A2 A3 HW0 hvv
    have hgv2 : Hid (GoodA ss k xs sv off ↔ ∀ p ∈ offsL xs sv off, p < ((ss.getD k s0).2.length : Int)) := ⟨fun q => (hgv.out.1 q).2, fun q => hgv.out.2 ⟨hv, q⟩⟩
    clear hgv hdv hv HV
    obtain ⟨sb0, cb0, eb0, hrow0⟩ := HH2.out
    injection eb0 with eb1 _ eb2
    subst eb1 eb2
    rcases hrow0 with h0 | ⟨bs, os, rfl, hrow⟩
    · rw [h0] at hk; simp at hk
    obtain ⟨q0, u, q1, q2⟩ := hrow k hk
    obtain ⟨su, cu, rfl, _⟩ := q2
    have hcl := hl.at k hk
    generalize (ss.getD k s0).2.length = N at hgv2 hcl q1
    generalize (ss.getD k s0).1 = DT at q0
    generalize offsL xs sv off = L at HO hOl hgv2 ⊢
    clear hrow
    have hk0 : (0 : Int) ≤ (k : Int) := Int.natCast_nonneg _
    have hk1 : (k : Int) < (ss.length : Int) := by omega
    go_wp2_with fail
    go_loopw [6] (fun i wr => ∃ m : Nat, i = .int .i64 m ∧ m ≤ L.length ∧ Hid (∀ j, j < m → L.getD j 0 < (N : Int)) ∧ Ext w2 wr) (fun i _ => L.length - (intOf i).toNat)
    case atStart => exact ⟨0, rfl, by omega, fun j hj => absurd hj (Nat.not_lt_zero _), Ext.refl w2⟩
    case round =>
      obtain ⟨m, rfl, hm, hv2, hw2⟩ := hrel
      have HW2 := hide hw2
      clear hw2
      have b0' := HW2.out.box c2'
      have b1' := HW2.out.box a2''
      have b2' := HW2.out.box q1
      by_cases hml : m < L.length
      · rcases HO.out with h0 | ⟨g, rfl, hg1, hrowL, _⟩
        · rw [h0] at hml; simp at hml
        have l0 := HW2.out.box (hrowL m hml)
        rw [Nat.zero_add] at l0
        have hm0 : (0 : Int) ≤ (m : Int) := Int.natCast_nonneg _
        have hm1 : (m : Int) < (L.length : Int) := by omega
        have hmem : Hid (¬ L.getD m 0 < (N : Int) → ¬ GoodA ss k xs sv off) := fun q1 q2 => q1 (hgv2.out.1 q2 _ (by rw [List.getD_eq_getElem?_getD, List.getElem?_eq_getElem hml]; exact List.getElem_mem hml))
        have hstep : Hid (L.getD m 0 < (N : Int) → ∀ j, j < m + 1 → L.getD j 0 < (N : Int)) := fun q j hj => by
          by_cases e : j = m
          · rw [e]; exact q
          · exact hv2.out j (by omega)
        generalize L.getD m 0 = X at l0 hmem hstep
        clear hrowL
        by_cases hX : X < (N : Int)
        · have hX' : ¬ (N : Int) ≤ X := by omega
          have hXd : decide ((N : Int) ≤ X) = false := decide_eq_false hX'
          go_wp2_with fail
          go_quiet (fail)
          go_wp2
          go_roundw
          · exact ⟨m + 1, by go_num, by omega, hstep.out hX, HW2.out.drewN _⟩
          · simp [intOf]; omega
        · have hX' : (N : Int) ≤ X := by omega
          have hXd : decide ((N : Int) ≤ X) = true := decide_eq_true hX'
          have hno : Hid ((dcGoodA ss k xs sv off) = false) := decide_eq_false (hmem.out hX)
          go_wp2_with fail
          go_quiet (fail)
          go_wp2
          go_ret
          exact ⟨ret_bool hno.out.symm, Bel.tr X2.out (HW2.out.drewN _).bl⟩
      · have hmm : m = L.length := by omega
        subst hmm
        have hyes : Hid ((dcGoodA ss k xs sv off) = true) := decide_eq_true (hgv2.out.2 fun p hp => by
          obtain ⟨j, hj, rfl⟩ := List.getElem_of_mem hp
          have := hv2.out j hj
          rw [List.getD_eq_getElem?_getD, List.getElem?_eq_getElem hj] at this
          exact this)
        go_wp2
        go_ret
        exact ⟨ret_bool hyes.out.symm, Bel.tr X2.out HW2.out.bl⟩
  · have hno : Hid ((dcGoodA ss k xs sv off) = false) := decide_eq_false (fun q => hv (hgv.out.1 q).1)
    have hdv : (dcValidV xs sv off) = false := dcValidV_f hv
    rw [hdv] at hvv
    have HV := hide hv
    clear hv
    go_enter Try.func30, Try.ntmps30
    go_wp2_with (go_at_call 50; rw [HW0.out]; refine hvv.out.mono ?_; rintro e w1 ⟨rfl, x1⟩)
    have hv := HV.out
    go_ret
    exact ⟨ret_bool hno.out.symm, Bel.tr X0.out x1⟩
end Go.Proofs.Ytbkdfhlbjaiahaa
