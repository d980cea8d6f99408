import Derived.Test.YtiekkninnjffpaaMerged
import Derived.RangeFuncNested
import Derived.RangeFuncBound
import Derived.RangeFuncCalls
import Derived.RangeFuncLeaves
import Derived.Shelf.Abstract
import Derived.Shelf.RegionOpen
import Derived.WalkKit
import Derived.OwnWalkIn
import Derived.TacticsInMore
import Derived.LoopNIn
import Derived.LoopIn
namespace Go.Proofs.Ytiekkninnjffpaa
open Go.ChangeShapes Go.RowKit Go.Shelf
set_option linter.unusedSimpArgs false
set_option linter.unusedVariables false

attribute [local go_sem] Oper.semAt_some

/-- Cells that were laid from block b on are kept. -/
structure KC (b : Nat) (A B : World) : Prop where
  size : A.heap.size ≤ B.heap.size
  keep : ∀ k o, b ≤ k → A.heap[k]? = some o → o.isCells = true → B.heap[k]? = some o
theorem KC.refl (b : Nat) (A : World) : KC b A A := ⟨Nat.le_refl _, fun _ _ _ h _ => h⟩
theorem KC.trans {b : Nat} {A B C : World} (x : KC b A B) (y : KC b B C) : KC b A C := ⟨Nat.le_trans x.size y.size, fun k o hb h hc => y.keep k o hb (x.keep k o hb h hc) hc⟩
theorem KC.alloc (b : Nat) (A : World) (o : Obj) : KC b A (A.alloc o) := by
  refine ⟨by simp, fun k o2 hb h hc => ?_⟩
  have hk : k < A.heap.size := by
    rcases Nat.lt_or_ge k A.heap.size with q | q
    · exact q
    · rw [Array.getElem?_eq_none q] at h; cases h
  rw [Below.heap_alloc A o k hk]; exact h
theorem KC.cell {b : Nat} {A B : World} (x : KC b A B) {k o : Nat} {v : Value} (hb : b ≤ k) (h : A.cell? ⟨k, o, none⟩ = some v) : B.cell? ⟨k, o, none⟩ = some v := by
  have hk : k < A.heap.size := cell_lt h
  have hc : ∃ ob, A.heap[k]? = some ob ∧ ob.isCells = true := by
    cases hh : A.heap[k]? with
    | none => simp [World.cell?, hh] at h
    | some ob =>
      refine ⟨ob, rfl, ?_⟩
      cases ob with
      | cells cs t f => rfl
      | _ => simp [World.cell?, hh] at h
  obtain ⟨ob, h1, h2⟩ := hc
  exact (World.cell?_of_block ((x.keep k ob hb h1 h2).trans h1.symm)).trans h

theorem room_of_none {F : Fence} (hd : F.depth = none) (k : Nat) : F.room k := fun d h => by rw [hd] at h; cases h

/-- The places of the d fastest merged axes. -/
def plD (M S : List Int) (d : Nat) (at_ : Int) : List Int := places (M.take d).reverse (S.take d).reverse at_
theorem plD_zero (M S : List Int) (at_ : Int) : plD M S 0 at_ = [at_] := by simp [plD, places]
theorem plD_succ (M S : List Int) (d : Nat) (at_ : Int) (h1 : d < M.length) (h2 : d < S.length) : plD M S (d + 1) at_ = (List.range (M.getD d 0).toNat).flatMap fun (i : Nat) => plD M S d (at_ + (i : Int) * S.getD d 0) := by
  unfold plD
  rw [take_snoc M d h1, take_snoc S d h2, List.reverse_append, List.reverse_append]
  rfl
/-- What has come when k rounds of the axis are over. -/
def plK (M S : List Int) (d : Nat) (at_ : Int) (k : Nat) : List Int := (List.range k).flatMap fun (i : Nat) => plD M S d (at_ + (i : Int) * S.getD d 0)
theorem plK_succ (M S : List Int) (d : Nat) (at_ : Int) (k : Nat) : plK M S d at_ (k + 1) = plK M S d at_ k ++ plD M S d (at_ + (k : Int) * S.getD d 0) := by
  simp [plK, List.range_succ]

theorem plK_prefix (M S : List Int) (d : Nat) (at_ : Int) {k m : Nat} (h : k ≤ m) : plK M S d at_ k <+: plK M S d at_ m := by
  obtain ⟨j, rfl⟩ := Nat.exists_eq_add_of_le h
  unfold plK
  rw [List.range_add, List.flatMap_append]
  exact List.prefix_append _ _
theorem plK_le (M S : List Int) (d : Nat) (at_ : Int) {k m : Nat} (h : k ≤ m) : (plK M S d at_ k).length ≤ (plK M S d at_ m).length := (plK_prefix M S d at_ h).length_le
/-- The rounds of the loop over one axis. -/
def WRel (J : List Int → World → Prop) (b : Nat) (W1 : World) (pre M S : List Int) (d : Nat) (place t : Int) (p i : Value) (cnt : Int) (wr : World) : Prop :=
  ∃ k : Nat, i = .int .i64 k ∧ p = .int .i64 (place + (k : Int) * t) ∧ (k : Int) ≤ cnt ∧ J (pre ++ plK M S d place k) wr ∧ KC b W1 wr

set_option maxRecDepth 100000 in
set_option maxHeartbeats 2000000 in
theorem walk_in (F : Fence) (hd : F.depth = none) (h84 : F.fn 84) (hro : F.round = none) (l b N : Nat) (Pr : Int → Prop) (J Jx : List Int → World → Prop) (hJ : AbidesFrom b J)
    (hY : ∀ m pre x W, Pr x → J pre W → pre.length < N → YieldAt F m Try.prog l #[.int .i64 x] W fun e W' =>
      (e = .returned (.bool true) ∧ J (pre ++ [x]) W' ∧ KC b W W') ∨ (e = .returned (.bool false) ∧ Jx (pre ++ [x]) W'))
    (M S : List Int) (off : Int) (h4 : M.length ≤ 4) (hl : S.length = M.length) (hM : ∀ m ∈ M, 0 ≤ m ∧ m ≤ 4096) (hS : ∀ t ∈ S, -4096 ≤ t ∧ t ≤ 4096) :
    ∀ (d : Nat), d ≤ M.length → ∀ (n : Nat) (place : Int) (pre : List Int) (W : World), b ≤ W.heap.size → (-(20000000 * (5 - (d : Int))) ≤ place ∧ place ≤ 20000000 * (5 - (d : Int))) → J pre W → pre.length + (plD M S d place).length ≤ N → (∀ x ∈ plD M S d place, Pr x) →
      CallsIn F n Try.prog 84 #[.agg (vw M S off), .int .i64 ((d : Int) - 1), .int .i64 place, .func (.yield l) #[] #[]] W fun e W' =>
        (e = .returned (.bool true) ∧ J (pre ++ plD M S d place) W' ∧ KC b W W') ∨ (e = .returned (.bool false) ∧ ∃ q, q <+: plD M S d place ∧ Jx (pre ++ q) W') := by
  intro d
  have hdd : ∀ k : Nat, (F.depth.isSome = true → 1 ≤ k) := fun k h => by rw [hd] at h; cases h
  induction d with
  | zero =>
    intro _ n place pre W hb hp hJ0 hN hPr
    rw [plD_zero] at hN hPr ⊢
    have hPp : Pr place := hPr place (List.mem_singleton.2 rfl)
    clear hPr
    unfold vw
    generalize M.getD 0 0 = e0
    generalize M.getD 1 0 = e1
    generalize M.getD 2 0 = e2
    generalize M.getD 3 0 = e3
    generalize S.getD 0 0 = e4
    generalize S.getD 1 0 = e5
    generalize S.getD 2 0 = e6
    generalize S.getD 3 0 = e7
    have hJ1 : J pre (W.alloc (.cells #[.int .i64 M.length, .int .i64 e0, .int .i64 e1, .int .i64 e2, .int .i64 e3, .int .i64 e4, .int .i64 e5, .int .i64 e6, .int .i64 e7, .int .i64 off] 64)) := hJ pre W _ none hJ0 (World.grownBy_alloc W _ none) (fun r e => by cases e)
    have hK1 := KC.alloc b W (.cells #[.int .i64 M.length, .int .i64 e0, .int .i64 e1, .int .i64 e2, .int .i64 e3, .int .i64 e4, .int .i64 e5, .int .i64 e6, .int .i64 e7, .int .i64 off] 64)
    obtain ⟨fn, tmps, assign, body, hy, hR⟩ := hY (n - 1) pre place _ hPp hJ1 (by simp at hN; omega)
    refine callsIn_of_wp Try.func84 rfl h84 ?_ hro
    simp only [Try.ntmps84, List.size_toArray, List.length_cons, List.length_nil, Nat.reduceAdd, Nat.reduceSub, Array.replicate_succ, Array.replicate_zero, List.push_toArray, List.append_toArray, List.nil_append, List.cons_append]
    gi_wp2
    refine hR.mono ?_
    rintro e W2 (⟨rfl, hJ2, hk2⟩ | ⟨rfl, hx2⟩)
    · gi_wp2
      go_ret
      exact .inl ⟨rfl, hJ2, hK1.trans hk2⟩
    · gi_wp2
      go_ret
      exact .inr ⟨rfl, [place], List.prefix_refl _, hx2⟩
  | succ d ih =>
    intro hdl n place pre W hb hp hJ0 hN hPr
    have hdS : d < S.length := by omega
    have hcnt : 0 ≤ M.getD d 0 ∧ M.getD d 0 ≤ 4096 := by
      rw [List.getD_eq_getElem?_getD, List.getElem?_eq_getElem (by omega)]; exact hM _ (List.getElem_mem _)
    have hst : -4096 ≤ S.getD d 0 ∧ S.getD d 0 ≤ 4096 := by
      rw [List.getD_eq_getElem?_getD, List.getElem?_eq_getElem hdS]; exact hS _ (List.getElem_mem _)
    have n1 := fun j => new_cell W (vw M S off) 64 W.heap.size rfl j
    have c0 := n1 0
    have c9 := n1 9
    have hd4 : d < 4 := by omega
    have hcl : ∀ j, j < 4 → (W.alloc (.cells (vw M S off) 64)).cell? ⟨W.heap.size, 1 + j, none⟩ = some (.int .i64 (M.getD j 0)) := fun j hj => by
      obtain rfl | rfl | rfl | rfl : j = 0 ∨ j = 1 ∨ j = 2 ∨ j = 3 := by omega
      · exact n1 1
      · exact n1 2
      · exact n1 3
      · exact n1 4
    have hcs : ∀ j, j < 4 → (W.alloc (.cells (vw M S off) 64)).cell? ⟨W.heap.size, 5 + j, none⟩ = some (.int .i64 (S.getD j 0)) := fun j hj => by
      obtain rfl | rfl | rfl | rfl : j = 0 ∨ j = 1 ∨ j = 2 ∨ j = 3 := by omega
      · exact n1 5
      · exact n1 6
      · exact n1 7
      · exact n1 8
    have l1 : (W.alloc (.cells (vw M S off) 64)).cell? ⟨W.heap.size, 1, none⟩ = _ := n1 1
    have l2 : (W.alloc (.cells (vw M S off) 64)).cell? ⟨W.heap.size, 2, none⟩ = _ := n1 2
    have l3 : (W.alloc (.cells (vw M S off) 64)).cell? ⟨W.heap.size, 3, none⟩ = _ := n1 3
    have l4 : (W.alloc (.cells (vw M S off) 64)).cell? ⟨W.heap.size, 4, none⟩ = _ := n1 4
    have l5 : (W.alloc (.cells (vw M S off) 64)).cell? ⟨W.heap.size, 5, none⟩ = _ := n1 5
    have l6 : (W.alloc (.cells (vw M S off) 64)).cell? ⟨W.heap.size, 6, none⟩ = _ := n1 6
    have l7 : (W.alloc (.cells (vw M S off) 64)).cell? ⟨W.heap.size, 7, none⟩ = _ := n1 7
    have l8 : (W.alloc (.cells (vw M S off) 64)).cell? ⟨W.heap.size, 8, none⟩ = _ := n1 8
    have qn := hcl d hd4
    have qt := hcs d hd4
    have hJ1 : J pre (W.alloc (.cells (vw M S off) 64)) := hJ pre W _ none hJ0 (World.grownBy_alloc W _ none) (fun r e => by cases e)
    have hK1 := KC.alloc b W (.cells (vw M S off) 64)
    rw [plD_succ M S d place (by omega) hdS] at hN hPr ⊢
    have hPk : Hid (∀ k : Nat, k < (M.getD d 0).toNat → ∀ x ∈ plD M S d (place + (k : Int) * S.getD d 0), Pr x) := fun k hk x hx => hPr x (List.mem_flatMap.2 ⟨k, List.mem_range.2 hk, hx⟩)
    clear hPr
    have hIH := hide (fun n place pre W => ih (by omega) n place pre W)
    clear ih n1 hcl hcs
    have Hk : Hid (plK M S d place (M.getD d 0).toNat = (List.range (M.getD d 0).toNat).flatMap fun (i : Nat) => plD M S d (place + (i : Int) * S.getD d 0)) := rfl
    rw [← Hk.out] at hN ⊢
    clear Hk
    have hks : Hid (∀ k, plK M S d place (k + 1) = plK M S d place k ++ plD M S d (place + (k : Int) * S.getD d 0)) := fun k => plK_succ M S d place k
    unfold vw at hJ1 hK1 qn qt c0 c9 l1 l2 l3 l4 l5 l6 l7 l8 hIH ⊢
    refine callsIn_of_wp Try.func84 rfl h84 ?_ hro
    simp only [Try.ntmps84, List.size_toArray, List.length_cons, List.length_nil, Nat.reduceAdd, Nat.reduceSub, Array.replicate_succ, Array.replicate_zero, List.push_toArray, List.append_toArray, List.nil_append, List.cons_append]
    generalize hcn : M.getD d 0 = cnt at *
    generalize hct : S.getD d 0 = t at *
    generalize M.getD 0 0 = e0 at *
    generalize M.getD 1 0 = e1 at *
    generalize M.getD 2 0 = e2 at *
    generalize M.getD 3 0 = e3 at *
    generalize S.getD 0 0 = e4 at *
    generalize S.getD 1 0 = e5 at *
    generalize S.getD 2 0 = e6 at *
    generalize S.getD 3 0 = e7 at *
    have hax : ((d + 1 : Nat) : Int) - 1 = (d : Int) := by omega
    rw [hax]
    clear hax
    have hd0 : (0 : Int) ≤ (d : Int) := Int.natCast_nonneg _
    have hdi : (d : Int) < 4 := by omega
    generalize hW1 : W.alloc (.cells #[.int .i64 M.length, .int .i64 e0, .int .i64 e1, .int .i64 e2, .int .i64 e3, .int .i64 e4, .int .i64 e5, .int .i64 e6, .int .i64 e7, .int .i64 off] 64) = W1 at *
    have hdn : ¬ (d : Int) < 0 := by omega
    gi_wp2
    try simp only [decide_eq_false hdn]
    have hNN := hide hN
    clear hdn hN
    have S0 : WRel J b W1 pre M S d place t (.int .i64 place) (.int .i64 0) cnt W1 := ⟨0, rfl, by simp, hcnt.1, by simpa [plK] using hJ1, KC.refl _ _⟩
    have HS0 := hide S0
    clear S0 hJ1
    gi_loopw [2, 19] (fun p i wr => WRel J b W1 pre M S d place t p i cnt wr) (fun p i _ => (cnt - intOf i).toNat)
    case atStart => exact HS0.out
    case round =>
      obtain ⟨k, rfl, rfl, hk, hJk, hKk⟩ := hrel
      have c0' := hKk.cell hb c0
      have c9' := hKk.cell hb c9
      have l1' := hKk.cell hb l1
      have l2' := hKk.cell hb l2
      have l3' := hKk.cell hb l3
      have l4' := hKk.cell hb l4
      have l5' := hKk.cell hb l5
      have l6' := hKk.cell hb l6
      have l7' := hKk.cell hb l7
      have l8' := hKk.cell hb l8
      by_cases hlt : (k : Int) < cnt
      · have hkt : -16777216 ≤ (k : Int) * t ∧ (k : Int) * t ≤ 16777216 := by
          have := mul_between (k : Int) 4097 t (by omega) (by omega)
          omega
        have hle : (plK M S d place k).length + (plD M S d (place + (k : Int) * t)).length ≤ (plK M S d place cnt.toNat).length := by
          rw [← List.length_append, ← hks.out]
          exact plK_le M S d place (by omega)
        have hcall := (hIH.out (n - 1) (place + (k : Int) * t) (pre ++ plK M S d place k) wr (Nat.le_trans hb (by have := hKk.size; rw [← hW1] at this; simp at this; omega)) (by omega) hJk (by have := hNN.out; rw [List.length_append]; omega) (hPk.out k (by omega)))
        have hpf : ∀ q, q <+: plD M S d (place + (k : Int) * t) → plK M S d place k ++ q <+: plK M S d place cnt.toNat := fun q hq => by
          refine List.IsPrefix.trans ?_ (plK_prefix M S d place (show k + 1 ≤ cnt.toNat by omega))
          rw [hks.out]
          exact (List.prefix_append_right_inj _).2 hq
        have hks1 := hide (hks.out k)
        have Hpf := hide hpf
        generalize hQ : plD M S d (place + (k : Int) * t) = PD at hcall Hpf hks1
        clear hQ hpf hle
        generalize hI : place + (k : Int) * t = I at hcall ⊢
        have HI := hide hI
        have hIb : -100000000 ≤ I ∧ I ≤ 100000000 := by omega
        clear hI
        have qtk := hKk.cell hb qt
        have HC := hide (hcall.mono (R' := fun e W3 => (e = .returned (.bool true) ∧ J (pre ++ plK M S d place k ++ PD) W3 ∧ KC b wr W3 ∧ W3.cell? ⟨W.heap.size, 5 + d, none⟩ = some (.int .i64 t)) ∨ (e = .returned (.bool false) ∧ ∃ q, q <+: PD ∧ Jx (pre ++ plK M S d place k ++ q) W3)) (fun e W3 h => h.elim (fun ⟨he, hj, hk⟩ => .inl ⟨he, hj, hk, hk.cell hb qtk⟩) .inr))
        clear hcall
        gi_wp2_with ((try refine ⟨hdd _, ?_⟩); gi_at_call 84; refine HC.out.mono ?_; clear HC; rintro e W3 (⟨rfl, hJ3, hk3, qt3⟩ | ⟨rfl, q, hq, hx3⟩))
        · go_roundw
          · refine ⟨k + 1, by go_num, ?_, by omega, ?_, hKk.trans hk3⟩
            · rw [← HI.out]
              congr 1
              rw [Int.natCast_add, Int.add_mul]
              omega
            · rw [hks1.out, ← List.append_assoc]; exact hJ3
          · simp [intOf]; omega
        · go_ret
          exact .inr ⟨rfl, plK M S d place k ++ q, Hpf.out q hq, by rw [← List.append_assoc]; exact hx3⟩
      · have hkk : (k : Int) = cnt := by omega
        have hkn : cnt.toNat = k := by omega
        have Hkn := hide hkn
        have hK2 := hide (hK1.trans hKk)
        have HJk := hide hJk
        clear hkn hJk hKk
        gi_wp2
        go_ret
        exact .inl ⟨rfl, by rw [Hkn.out]; exact HJk.out, hK2.out⟩
end Go.Proofs.Ytiekkninnjffpaa
