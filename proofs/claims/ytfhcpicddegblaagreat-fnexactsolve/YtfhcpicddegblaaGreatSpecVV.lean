import Derived.Test.YtfhcpicddegblaaGreatM3
namespace Go.Proofs.YtfhcpicddegblaaGreat
open Go.ChangeShapes Go.RowKit
set_option linter.unusedSimpArgs false
set_option linter.unusedVariables false

/-- All strides up to k are in range. -/
abbrev InS (ss : List Int) (k : Nat) : Prop := ∀ j, j < k → -4096 ≤ ss.getD j 0 ∧ ss.getD j 0 ≤ 4096
theorem InS.step {xs : List Int} {k : Nat} (h : InS xs k) (hx : -4096 ≤ xs.getD k 0 ∧ xs.getD k 0 ≤ 4096) : InS xs (k + 1) := fun j hj => by
  by_cases e : j = k
  · rw [e]; exact hx
  · exact h j (by omega)
/-- A valid view. -/
abbrev ValidV (xs ss : List Int) (off : Int) : Prop := Good xs ∧ ss.length = xs.length ∧ (0 ≤ off ∧ off ≤ 4096) ∧ InS ss ss.length ∧ (prod xs = 0 ∨ (0 ≤ least xs ss off ∧ most xs ss off < 4096))
def dcValidV (xs ss : List Int) (off : Int) : Bool := decide (ValidV xs ss off)
theorem dcValidV_t {xs ss : List Int} {off : Int} (h : ValidV xs ss off) : dcValidV xs ss off = true := decide_eq_true h
theorem dcValidV_f {xs ss : List Int} {off : Int} (h : ¬ ValidV xs ss off) : dcValidV xs ss off = false := decide_eq_false h

theorem getD_mem {xs : List Int} {n : Int} (h : n ∈ xs) : ∃ j, j < xs.length ∧ xs.getD j 0 = n := by
  obtain ⟨j, hj, e⟩ := List.getElem_of_mem h
  exact ⟨j, hj, by rw [List.getD_eq_getElem?_getD, List.getElem?_eq_getElem hj]; exact e⟩

theorem foldl_plen : ∀ (xs : List Int) (a : Int), (∀ n ∈ xs, 0 ≤ n) → xs.foldl (· * ·) a = a * (plen xs : Int)
  | [], a, _ => by simp [plen]
  | n :: ns, a, h => by
    have h0 : 0 ≤ n := h n (by simp)
    rw [List.foldl_cons, foldl_plen ns (a * n) (fun m hm => h m (by simp [hm]))]
    simp only [plen]
    rw [Int.natCast_mul, Int.toNat_of_nonneg h0, Int.mul_assoc]
theorem prod_plen {xs : List Int} (h : ∀ n ∈ xs, 0 ≤ n) : prod xs = (plen xs : Int) := by
  unfold prod; rw [foldl_plen xs 1 h, Int.one_mul]
theorem good_nonneg {xs : List Int} (h : Good xs) : ∀ n ∈ xs, 0 ≤ n ∧ n ≤ 4096 := fun n hn => by
  obtain ⟨j, hj, rfl⟩ := getD_mem hn
  exact h.2.1 j hj
theorem plen_zero : ∀ (xs : List Int), (∃ n ∈ xs, n = 0) → plen xs = 0
  | [], h => by obtain ⟨n, hn, _⟩ := h; cases hn
  | m :: ns, h => by
    simp only [plen]
    obtain ⟨n, hn, h0⟩ := h
    rcases List.mem_cons.1 hn with rfl | hn
    · subst h0; simp
    · rw [plen_zero ns ⟨n, hn, h0⟩, Nat.mul_zero]
theorem good_pos {xs : List Int} (h : Good xs) (hp : prod xs ≠ 0) : ∀ n ∈ xs, 1 ≤ n ∧ n ≤ 4096 := fun n hn => by
  have h1 := good_nonneg h n hn
  by_cases e : n = 0
  · exfalso
    apply hp
    rw [prod_plen (fun m hm => (good_nonneg h m hm).1), plen_zero xs ⟨n, hn, e⟩]; rfl
  · omega

set_option maxRecDepth 100000 in
set_option maxHeartbeats 2000000 in
theorem sVV_any {w : World} {vS vT : Value} {xs ss : List Int} (hS : Ints w vS xs) (hT : Ints w vT ss) (off : Int) (lx : xs.length ≤ 1048576) (ls : ss.length ≤ 1048576) :
    Calls Tryz.prog 67 #[.agg #[vS, vT, .int .i64 off]] w fun e w' => e = .returned (.bool (dcValidV xs ss off)) ∧ Bel w w' := by
  have x0 : Ext w (w.alloc (.cells #[vS, vT, .int .i64 off] 39)) := (Ext.refl w).alloc _ _
  have X0 := hide x0.bl
  have HS := hide (hS.ext x0)
  have HT := hide (hT.ext x0)
  have n1 := fun j => new_cell w #[vS, vT, .int .i64 off] 39 w.heap.size rfl j
  have k0 := n1 0
  have k1 := n1 1
  have k2 := n1 2
  clear n1 x0
  obtain ⟨sa, cap, rfl, _⟩ := hS
  obtain ⟨ta, dap, rfl, _⟩ := hT
  obtain ⟨_, _, eT, rowT⟩ := HT.out
  obtain ⟨rfl, _, rfl⟩ : ta = _ ∧ True ∧ dap = _ := by simpa using eT
  have HrT := hide rowT
  clear rowT eT
  by_cases hg : Good xs
  · have hx4 := hg.1
    by_cases hl : ss.length = xs.length
    · by_cases ho : 0 ≤ off ∧ off ≤ 4096
      · have hcn : cntL xs = prod xs := if_pos hg
        have hpb := prod_bd xs xs.length hg.1 (Nat.le_refl _) hg.2.1
        rw [List.take_length] at hpb
        have Hl := hide hl
        have Hg := hide hg
        have hli : (ss.length : Int) = (xs.length : Int) := by omega
        clear hg hl
        go_enter Tryz.func67, Tryz.ntmps67
        go_wp2_with fail
        generalize hW0 : w.alloc (.cells #[.slice sa xs.length cap, .slice ta ss.length dap, .int .i64 off] 39) = W0 at X0 HS HT k0 k1 k2 HrT ⊢
        clear hW0
        refine (l2Count_any HS.out (by omega)).mono ?_
        rintro e w' ⟨rfl, rfl⟩
        rw [hcn]
        have c1 : ¬ prod xs < 0 := by omega
        have o1 : ¬ off < 0 := by omega
        have o2 : ¬ 4096 < off := by omega
        clear hcn
        generalize hP : prod xs = P at hpb c1 ⊢
        have HP := hide hP
        clear hP
        go_wp2
        go_loopw [4] (fun i wr => ∃ k : Nat, i = .int .i64 k ∧ k ≤ ss.length ∧ Hid (InS ss k) ∧ wr = w') (fun i _ => ss.length - (intOf i).toNat)
        case atStart => exact ⟨0, rfl, by omega, fun j hj => absurd hj (Nat.not_lt_zero _), rfl⟩
        case round =>
          obtain ⟨k, rfl, hk, hin, rfl⟩ := hrel
          by_cases hlt : k < ss.length
          · rcases HrT.out with h0 | ⟨b, o, rfl, hrow⟩
            · rw [h0] at hlt; simp at hlt
            have q0 := hrow k hlt
            have hk0 : (0 : Int) ≤ (k : Int) := Int.natCast_nonneg _
            have hk1 : (k : Int) < (ss.length : Int) := by omega
            by_cases hr : -4096 ≤ ss.getD k 0 ∧ ss.getD k 0 ≤ 4096
            · have hin2 := hide (hin.out.step hr)
              generalize ss.getD k 0 = x at q0 hr
              have hlo : ¬ x < -4096 := by omega
              have hhi : ¬ 4096 < x := by omega
              clear hrow
              go_wp2
              go_roundw
              · exact ⟨k + 1, by go_num, by omega, hin2, by trivial⟩
              · simp [intOf]; omega
            · have hno : Hid ((dcValidV xs ss off) = false) := decide_eq_false (fun q => hr (q.2.2.2.1 k hlt))
              generalize ss.getD k 0 = x at q0 hr
              clear hrow
              have hor : x < -4096 ∨ (¬ x < -4096 ∧ 4096 < x) := by omega
              rcases hor with hlo | ⟨hlo, hhi⟩
              all_goals
                go_wp2
                go_ret
                exact ⟨ret_bool hno.out.symm, X0.out⟩
          · have hkk : k = ss.length := by omega
            subst hkk
            by_cases hP0 : P = 0
            · have hyes : Hid ((dcValidV xs ss off) = true) := decide_eq_true ⟨Hg.out, Hl.out, ho, hin.out, Or.inl (HP.out.trans hP0)⟩
              subst hP0
              go_wp2
              go_ret
              exact ⟨ret_bool hyes.out.symm, X0.out⟩
            · have hPn : (P == 0) = false := by simp [hP0]
              have hpos := good_pos Hg.out (by rw [HP.out]; exact hP0)
              have hst : ∀ s ∈ ss, -4096 ≤ s ∧ s ≤ 4096 := fun s hs => by
                obtain ⟨j, hj, rfl⟩ := getD_mem hs
                exact hin.out j hj
              have hpln : plen xs ≤ 4096 := by
                have h1 := prod_plen (fun m hm => (good_nonneg Hg.out m hm).1)
                have h2 := Hg.out.2.2
                omega
              have hpl := places_any xs ss Hl.out.symm Hg.out.1 hpos hst off _ _ xs.length 0 (by omega) _ off HS.out HT.out (by simpa using hpln) (by omega)
              rw [List.drop_zero, List.drop_zero] at hpl
              have hlen := places_len xs ss off Hl.out.symm
              have hall := all_in xs ss off Hl.out.symm (fun n hn => (hpos n hn).1)
              have hval : ValidV xs ss off ↔ (∀ p ∈ places xs ss off, 0 ≤ p ∧ p < 4096) := by
                rw [hall]
                exact ⟨fun q => q.2.2.2.2.resolve_left (by rw [HP.out]; exact hP0), fun q => ⟨Hg.out, Hl.out, ho, hin.out, Or.inr q⟩⟩
              generalize places xs ss off = PL at hpl hlen hval
              have Hpl := hide hpl
              have Hval := hide hval
              clear hpl hval hall hpos hst
              go_wp2_with fail
              refine Hpl.out.mono ?_
              rintro e w3 ⟨sp, cp, rfl, hO, hB3⟩
              have X3 := hide (Bel.tr X0.out hB3)
              have HO := hide hO
              clear hO hB3
              go_wp2
              go_loopw [6] (fun i wr => ∃ m : Nat, i = .int .i64 m ∧ m ≤ PL.length ∧ Hid (∀ j, j < m → 0 ≤ PL.getD j 0 ∧ PL.getD j 0 < 4096) ∧ wr = w3) (fun i _ => PL.length - (intOf i).toNat)
              case atStart => exact ⟨0, rfl, by omega, fun j hj => absurd hj (Nat.not_lt_zero _), rfl⟩
              case round =>
                obtain ⟨m, rfl, hm, him, rfl⟩ := hrel
                by_cases hmt : m < PL.length
                · rcases HO.out with h0 | ⟨g, rfl, _, hrow, _⟩
                  · rw [h0] at hmt; simp at hmt
                  have q0 := hrow m hmt
                  rw [Nat.zero_add] at q0
                  have hm0 : (0 : Int) ≤ (m : Int) := Int.natCast_nonneg _
                  have hm1 : (m : Int) < (PL.length : Int) := by omega
                  by_cases hr : 0 ≤ PL.getD m 0 ∧ PL.getD m 0 < 4096
                  · have him2 : Hid (∀ j, j < m + 1 → 0 ≤ PL.getD j 0 ∧ PL.getD j 0 < 4096) := fun j hj => by
                      by_cases e : j = m
                      · rw [e]; exact hr
                      · exact him.out j (by omega)
                    generalize PL.getD m 0 = x at q0 hr
                    have hlo : ¬ x < 0 := by omega
                    have hhi : ¬ 4096 ≤ x := by omega
                    clear hrow
                    go_wp2
                    go_roundw
                    · exact ⟨m + 1, by go_num, by omega, him2, by trivial⟩
                    · simp [intOf]; omega
                  · have hno : Hid ((dcValidV xs ss off) = false) := decide_eq_false (fun q => hr (Hval.out.1 q _ (by rw [List.getD_eq_getElem?_getD, List.getElem?_eq_getElem hmt]; exact List.getElem_mem _)))
                    generalize PL.getD m 0 = x at q0 hr
                    clear hrow
                    have hor : x < 0 ∨ (¬ x < 0 ∧ 4096 ≤ x) := by omega
                    rcases hor with hlo | ⟨hlo, hhi⟩
                    all_goals
                      go_wp2
                      go_ret
                      exact ⟨ret_bool hno.out.symm, X3.out⟩
                · have hyes : Hid ((dcValidV xs ss off) = true) := decide_eq_true (Hval.out.2 (fun p hp => by
                    obtain ⟨j, hj, rfl⟩ := getD_mem hp
                    exact him.out j (by omega)))
                  go_wp2
                  go_ret
                  exact ⟨ret_bool hyes.out.symm, X3.out⟩
      · have hno : Hid ((dcValidV xs ss off) = false) := decide_eq_false (fun q => ho q.2.2.1)
        have hcn := good_cnt hg
        have hli : (ss.length : Int) = (xs.length : Int) := by omega
        have Hl := hide hl
        have hor : off < 0 ∨ (¬ off < 0 ∧ 4096 < off) := by omega
        clear hg hl ho
        rcases hor with o1 | ⟨o1, o2⟩
        all_goals
          go_enter Tryz.func67, Tryz.ntmps67
          go_wp2_with fail
          refine (l2Count_any HS.out (by omega)).mono ?_
          rintro e w' ⟨rfl, rfl⟩
          go_wp2
          go_ret
          exact ⟨ret_bool hno.out.symm, X0.out⟩
    · have hno : Hid ((dcValidV xs ss off) = false) := decide_eq_false (fun q => hl q.2.1)
      have hcn := good_cnt hg
      have hli : ¬ (ss.length : Int) = (xs.length : Int) := by omega
      clear hg hl
      go_enter Tryz.func67, Tryz.ntmps67
      go_wp2_with fail
      refine (l2Count_any HS.out (by omega)).mono ?_
      rintro e w' ⟨rfl, rfl⟩
      go_wp2
      go_ret
      exact ⟨ret_bool hno.out.symm, X0.out⟩
  · have hno : Hid ((dcValidV xs ss off) = false) := decide_eq_false (fun q => hg q.1)
    have hcn := bad_cnt hg
    clear hg
    go_enter Tryz.func67, Tryz.ntmps67
    go_wp2_with fail
    refine (l2Count_any HS.out (by omega)).mono ?_
    rintro e w' ⟨rfl, rfl⟩
    go_wp2
    go_ret
    exact ⟨ret_bool hno.out.symm, X0.out⟩
end Go.Proofs.YtfhcpicddegblaaGreat
