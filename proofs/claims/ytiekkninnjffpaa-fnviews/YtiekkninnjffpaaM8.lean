import Derived.Test.YtiekkninnjffpaaM7
import Derived.RangeFuncNested
import Derived.RangeFuncBound
import Derived.RangeFuncCalls
import Derived.RangeFuncLeaves
import Derived.Shelf.Abstract
import Derived.Shelf.RegionOpen
import Derived.WalkKit
import Derived.OwnWalkIn
import Derived.TacticsInMore
import Derived.LoopNIn
import Derived.LoopIn
import Derived.Test.YtiekkninnjffpaaSpecVV
import Derived.Test.YtiekkninnjffpaaM5
import Derived.Deep.OwnRows
namespace Go.Proofs.Ytiekkninnjffpaa
open Go.ChangeShapes Go.RowKit Go.Shelf
set_option linter.unusedSimpArgs false
set_option linter.unusedVariables false

attribute [local go_sem] Oper.semAt_some

/-- Cells that were laid from block b on are kept. -/
structure KC (b : Nat) (A B : World) : Prop where
  size : A.heap.size ≤ B.heap.size
  keep : ∀ k o, b ≤ k → A.heap[k]? = some o → o.isCells = true → B.heap[k]? = some o
theorem KC.refl (b : Nat) (A : World) : KC b A A := ⟨Nat.le_refl _, fun _ _ _ h _ => h⟩
theorem KC.trans {b : Nat} {A B C : World} (x : KC b A B) (y : KC b B C) : KC b A C := ⟨Nat.le_trans x.size y.size, fun k o hb h hc => y.keep k o hb (x.keep k o hb h hc) hc⟩
theorem KC.alloc (b : Nat) (A : World) (o : Obj) : KC b A (A.alloc o) := by
  refine ⟨by simp, fun k o2 hb h hc => ?_⟩
  have hk : k < A.heap.size := by
    rcases Nat.lt_or_ge k A.heap.size with q | q
    · exact q
    · rw [Array.getElem?_eq_none q] at h; cases h
  rw [Below.heap_alloc A o k hk]; exact h
theorem KC.cell {b : Nat} {A B : World} (x : KC b A B) {k o : Nat} {v : Value} (hb : b ≤ k) (h : A.cell? ⟨k, o, none⟩ = some v) : B.cell? ⟨k, o, none⟩ = some v := by
  have hk : k < A.heap.size := cell_lt h
  have hc : ∃ ob, A.heap[k]? = some ob ∧ ob.isCells = true := by
    cases hh : A.heap[k]? with
    | none => simp [World.cell?, hh] at h
    | some ob =>
      refine ⟨ob, rfl, ?_⟩
      cases ob with
      | cells cs t f => rfl
      | _ => simp [World.cell?, hh] at h
  obtain ⟨ob, h1, h2⟩ := hc
  exact (World.cell?_of_block ((x.keep k ob hb h1 h2).trans h1.symm)).trans h

theorem room_of_none {F : Fence} (hd : F.depth = none) (k : Nat) : F.room k := fun d h => by rw [hd] at h; cases h

/-- The places of the d fastest merged axes. -/
def plD (M S : List Int) (d : Nat) (at_ : Int) : List Int := places (M.take d).reverse (S.take d).reverse at_
theorem plD_zero (M S : List Int) (at_ : Int) : plD M S 0 at_ = [at_] := by simp [plD, places]
theorem plD_succ (M S : List Int) (d : Nat) (at_ : Int) (h1 : d < M.length) (h2 : d < S.length) : plD M S (d + 1) at_ = (List.range (M.getD d 0).toNat).flatMap fun (i : Nat) => plD M S d (at_ + (i : Int) * S.getD d 0) := by
  unfold plD
  rw [take_snoc M d h1, take_snoc S d h2, List.reverse_append, List.reverse_append]
  rfl
/-- What has come when k rounds of the axis are over. -/
def plK (M S : List Int) (d : Nat) (at_ : Int) (k : Nat) : List Int := (List.range k).flatMap fun (i : Nat) => plD M S d (at_ + (i : Int) * S.getD d 0)
theorem plK_succ (M S : List Int) (d : Nat) (at_ : Int) (k : Nat) : plK M S d at_ (k + 1) = plK M S d at_ k ++ plD M S d (at_ + (k : Int) * S.getD d 0) := by
  simp [plK, List.range_succ]

theorem plK_prefix (M S : List Int) (d : Nat) (at_ : Int) {k m : Nat} (h : k ≤ m) : plK M S d at_ k <+: plK M S d at_ m := by
  obtain ⟨j, rfl⟩ := Nat.exists_eq_add_of_le h
  unfold plK
  rw [List.range_add, List.flatMap_append]
  exact List.prefix_append _ _
theorem plK_le (M S : List Int) (d : Nat) (at_ : Int) {k m : Nat} (h : k ≤ m) : (plK M S d at_ k).length ≤ (plK M S d at_ m).length := (plK_prefix M S d at_ h).length_le
/-- The rounds of the loop over one axis. -/
def WRel (J : List Int → World → Prop) (b : Nat) (W1 : World) (pre M S : List Int) (d : Nat) (place t : Int) (p i : Value) (cnt : Int) (wr : World) : Prop :=
  ∃ k : Nat, i = .int .i64 k ∧ p = .int .i64 (place + (k : Int) * t) ∧ (k : Int) ≤ cnt ∧ J (pre ++ plK M S d place k) wr ∧ KC b W1 wr

set_option maxRecDepth 100000 in
set_option maxHeartbeats 2000000 in
theorem walk_in (F : Fence) (hd : F.depth = none) (h84 : F.fn 84) (hro : F.round = none) (l b N : Nat) (Pr : Int → Prop) (J Jx : List Int → World → Prop) (hJ : AbidesFrom b J)
    (hY : ∀ m pre x W, Pr x → J pre W → pre.length < N → YieldAt F m Try.prog l #[.int .i64 x] W fun e W' =>
      (e = .returned (.bool true) ∧ J (pre ++ [x]) W' ∧ KC b W W') ∨ (e = .returned (.bool false) ∧ Jx (pre ++ [x]) W'))
    (M S : List Int) (off : Int) (h4 : M.length ≤ 4) (hl : S.length = M.length) (hM : ∀ m ∈ M, 0 ≤ m ∧ m ≤ 4096) (hS : ∀ t ∈ S, -4096 ≤ t ∧ t ≤ 4096) :
    ∀ (d : Nat), d ≤ M.length → ∀ (n : Nat) (place : Int) (pre : List Int) (W : World), b ≤ W.heap.size → (-(20000000 * (5 - (d : Int))) ≤ place ∧ place ≤ 20000000 * (5 - (d : Int))) → J pre W → pre.length + (plD M S d place).length ≤ N → (∀ x ∈ plD M S d place, Pr x) →
      CallsIn F n Try.prog 84 #[.agg (vw M S off), .int .i64 ((d : Int) - 1), .int .i64 place, .func (.yield l) #[] #[]] W fun e W' =>
        (e = .returned (.bool true) ∧ J (pre ++ plD M S d place) W' ∧ KC b W W') ∨ (e = .returned (.bool false) ∧ ∃ q, q <+: plD M S d place ∧ Jx (pre ++ q) W') := by
  intro d
  have hdd : ∀ k : Nat, (F.depth.isSome = true → 1 ≤ k) := fun k h => by rw [hd] at h; cases h
  induction d with
  | zero =>
    intro _ n place pre W hb hp hJ0 hN hPr
    rw [plD_zero] at hN hPr ⊢
    have hPp : Pr place := hPr place (List.mem_singleton.2 rfl)
    clear hPr
    unfold vw
    generalize M.getD 0 0 = e0
    generalize M.getD 1 0 = e1
    generalize M.getD 2 0 = e2
    generalize M.getD 3 0 = e3
    generalize S.getD 0 0 = e4
    generalize S.getD 1 0 = e5
    generalize S.getD 2 0 = e6
    generalize S.getD 3 0 = e7
    have hJ1 : J pre (W.alloc (.cells #[.int .i64 M.length, .int .i64 e0, .int .i64 e1, .int .i64 e2, .int .i64 e3, .int .i64 e4, .int .i64 e5, .int .i64 e6, .int .i64 e7, .int .i64 off] 64)) := hJ pre W _ none hJ0 (World.grownBy_alloc W _ none) (fun r e => by cases e)
    have hK1 := KC.alloc b W (.cells #[.int .i64 M.length, .int .i64 e0, .int .i64 e1, .int .i64 e2, .int .i64 e3, .int .i64 e4, .int .i64 e5, .int .i64 e6, .int .i64 e7, .int .i64 off] 64)
    obtain ⟨fn, tmps, assign, body, hy, hR⟩ := hY (n - 1) pre place _ hPp hJ1 (by simp at hN; omega)
    refine callsIn_of_wp Try.func84 rfl h84 ?_ hro
    simp only [Try.ntmps84, List.size_toArray, List.length_cons, List.length_nil, Nat.reduceAdd, Nat.reduceSub, Array.replicate_succ, Array.replicate_zero, List.push_toArray, List.append_toArray, List.nil_append, List.cons_append]
    gi_wp2
    refine hR.mono ?_
    rintro e W2 (⟨rfl, hJ2, hk2⟩ | ⟨rfl, hx2⟩)
    · gi_wp2
      go_ret
      exact .inl ⟨rfl, hJ2, hK1.trans hk2⟩
    · gi_wp2
      go_ret
      exact .inr ⟨rfl, [place], List.prefix_refl _, hx2⟩
  | succ d ih =>
    intro hdl n place pre W hb hp hJ0 hN hPr
    have hdS : d < S.length := by omega
    have hcnt : 0 ≤ M.getD d 0 ∧ M.getD d 0 ≤ 4096 := by
      rw [List.getD_eq_getElem?_getD, List.getElem?_eq_getElem (by omega)]; exact hM _ (List.getElem_mem _)
    have hst : -4096 ≤ S.getD d 0 ∧ S.getD d 0 ≤ 4096 := by
      rw [List.getD_eq_getElem?_getD, List.getElem?_eq_getElem hdS]; exact hS _ (List.getElem_mem _)
    have n1 := fun j => new_cell W (vw M S off) 64 W.heap.size rfl j
    have c0 := n1 0
    have c9 := n1 9
    have hd4 : d < 4 := by omega
    have hcl : ∀ j, j < 4 → (W.alloc (.cells (vw M S off) 64)).cell? ⟨W.heap.size, 1 + j, none⟩ = some (.int .i64 (M.getD j 0)) := fun j hj => by
      obtain rfl | rfl | rfl | rfl : j = 0 ∨ j = 1 ∨ j = 2 ∨ j = 3 := by omega
      · exact n1 1
      · exact n1 2
      · exact n1 3
      · exact n1 4
    have hcs : ∀ j, j < 4 → (W.alloc (.cells (vw M S off) 64)).cell? ⟨W.heap.size, 5 + j, none⟩ = some (.int .i64 (S.getD j 0)) := fun j hj => by
      obtain rfl | rfl | rfl | rfl : j = 0 ∨ j = 1 ∨ j = 2 ∨ j = 3 := by omega
      · exact n1 5
      · exact n1 6
      · exact n1 7
      · exact n1 8
    have l1 : (W.alloc (.cells (vw M S off) 64)).cell? ⟨W.heap.size, 1, none⟩ = _ := n1 1
    have l2 : (W.alloc (.cells (vw M S off) 64)).cell? ⟨W.heap.size, 2, none⟩ = _ := n1 2
    have l3 : (W.alloc (.cells (vw M S off) 64)).cell? ⟨W.heap.size, 3, none⟩ = _ := n1 3
    have l4 : (W.alloc (.cells (vw M S off) 64)).cell? ⟨W.heap.size, 4, none⟩ = _ := n1 4
    have l5 : (W.alloc (.cells (vw M S off) 64)).cell? ⟨W.heap.size, 5, none⟩ = _ := n1 5
    have l6 : (W.alloc (.cells (vw M S off) 64)).cell? ⟨W.heap.size, 6, none⟩ = _ := n1 6
    have l7 : (W.alloc (.cells (vw M S off) 64)).cell? ⟨W.heap.size, 7, none⟩ = _ := n1 7
    have l8 : (W.alloc (.cells (vw M S off) 64)).cell? ⟨W.heap.size, 8, none⟩ = _ := n1 8
    have qn := hcl d hd4
    have qt := hcs d hd4
    have hJ1 : J pre (W.alloc (.cells (vw M S off) 64)) := hJ pre W _ none hJ0 (World.grownBy_alloc W _ none) (fun r e => by cases e)
    have hK1 := KC.alloc b W (.cells (vw M S off) 64)
    rw [plD_succ M S d place (by omega) hdS] at hN hPr ⊢
    have hPk : Hid (∀ k : Nat, k < (M.getD d 0).toNat → ∀ x ∈ plD M S d (place + (k : Int) * S.getD d 0), Pr x) := fun k hk x hx => hPr x (List.mem_flatMap.2 ⟨k, List.mem_range.2 hk, hx⟩)
    clear hPr
    have hIH := hide (fun n place pre W => ih (by omega) n place pre W)
    clear ih n1 hcl hcs
    have Hk : Hid (plK M S d place (M.getD d 0).toNat = (List.range (M.getD d 0).toNat).flatMap fun (i : Nat) => plD M S d (place + (i : Int) * S.getD d 0)) := rfl
    rw [← Hk.out] at hN ⊢
    clear Hk
    have hks : Hid (∀ k, plK M S d place (k + 1) = plK M S d place k ++ plD M S d (place + (k : Int) * S.getD d 0)) := fun k => plK_succ M S d place k
    unfold vw at hJ1 hK1 qn qt c0 c9 l1 l2 l3 l4 l5 l6 l7 l8 hIH ⊢
    refine callsIn_of_wp Try.func84 rfl h84 ?_ hro
    simp only [Try.ntmps84, List.size_toArray, List.length_cons, List.length_nil, Nat.reduceAdd, Nat.reduceSub, Array.replicate_succ, Array.replicate_zero, List.push_toArray, List.append_toArray, List.nil_append, List.cons_append]
    generalize hcn : M.getD d 0 = cnt at *
    generalize hct : S.getD d 0 = t at *
    generalize M.getD 0 0 = e0 at *
    generalize M.getD 1 0 = e1 at *
    generalize M.getD 2 0 = e2 at *
    generalize M.getD 3 0 = e3 at *
    generalize S.getD 0 0 = e4 at *
    generalize S.getD 1 0 = e5 at *
    generalize S.getD 2 0 = e6 at *
    generalize S.getD 3 0 = e7 at *
    have hax : ((d + 1 : Nat) : Int) - 1 = (d : Int) := by omega
    rw [hax]
    clear hax
    have hd0 : (0 : Int) ≤ (d : Int) := Int.natCast_nonneg _
    have hdi : (d : Int) < 4 := by omega
    generalize hW1 : W.alloc (.cells #[.int .i64 M.length, .int .i64 e0, .int .i64 e1, .int .i64 e2, .int .i64 e3, .int .i64 e4, .int .i64 e5, .int .i64 e6, .int .i64 e7, .int .i64 off] 64) = W1 at *
    have hdn : ¬ (d : Int) < 0 := by omega
    gi_wp2
    try simp only [decide_eq_false hdn]
    have hNN := hide hN
    clear hdn hN
    have S0 : WRel J b W1 pre M S d place t (.int .i64 place) (.int .i64 0) cnt W1 := ⟨0, rfl, by simp, hcnt.1, by simpa [plK] using hJ1, KC.refl _ _⟩
    have HS0 := hide S0
    clear S0 hJ1
    gi_loopw [2, 19] (fun p i wr => WRel J b W1 pre M S d place t p i cnt wr) (fun p i _ => (cnt - intOf i).toNat)
    case atStart => exact HS0.out
    case round =>
      obtain ⟨k, rfl, rfl, hk, hJk, hKk⟩ := hrel
      have c0' := hKk.cell hb c0
      have c9' := hKk.cell hb c9
      have l1' := hKk.cell hb l1
      have l2' := hKk.cell hb l2
      have l3' := hKk.cell hb l3
      have l4' := hKk.cell hb l4
      have l5' := hKk.cell hb l5
      have l6' := hKk.cell hb l6
      have l7' := hKk.cell hb l7
      have l8' := hKk.cell hb l8
      by_cases hlt : (k : Int) < cnt
      · have hkt : -16777216 ≤ (k : Int) * t ∧ (k : Int) * t ≤ 16777216 := by
          have := mul_between (k : Int) 4097 t (by omega) (by omega)
          omega
        have hle : (plK M S d place k).length + (plD M S d (place + (k : Int) * t)).length ≤ (plK M S d place cnt.toNat).length := by
          rw [← List.length_append, ← hks.out]
          exact plK_le M S d place (by omega)
        have hcall := (hIH.out (n - 1) (place + (k : Int) * t) (pre ++ plK M S d place k) wr (Nat.le_trans hb (by have := hKk.size; rw [← hW1] at this; simp at this; omega)) (by omega) hJk (by have := hNN.out; rw [List.length_append]; omega) (hPk.out k (by omega)))
        have hpf : ∀ q, q <+: plD M S d (place + (k : Int) * t) → plK M S d place k ++ q <+: plK M S d place cnt.toNat := fun q hq => by
          refine List.IsPrefix.trans ?_ (plK_prefix M S d place (show k + 1 ≤ cnt.toNat by omega))
          rw [hks.out]
          exact (List.prefix_append_right_inj _).2 hq
        have hks1 := hide (hks.out k)
        have Hpf := hide hpf
        generalize hQ : plD M S d (place + (k : Int) * t) = PD at hcall Hpf hks1
        clear hQ hpf hle
        generalize hI : place + (k : Int) * t = I at hcall ⊢
        have HI := hide hI
        have hIb : -100000000 ≤ I ∧ I ≤ 100000000 := by omega
        clear hI
        have qtk := hKk.cell hb qt
        have HC := hide (hcall.mono (R' := fun e W3 => (e = .returned (.bool true) ∧ J (pre ++ plK M S d place k ++ PD) W3 ∧ KC b wr W3 ∧ W3.cell? ⟨W.heap.size, 5 + d, none⟩ = some (.int .i64 t)) ∨ (e = .returned (.bool false) ∧ ∃ q, q <+: PD ∧ Jx (pre ++ plK M S d place k ++ q) W3)) (fun e W3 h => h.elim (fun ⟨he, hj, hk⟩ => .inl ⟨he, hj, hk, hk.cell hb qtk⟩) .inr))
        clear hcall
        gi_wp2_with ((try refine ⟨hdd _, ?_⟩); gi_at_call 84; refine HC.out.mono ?_; clear HC; rintro e W3 (⟨rfl, hJ3, hk3, qt3⟩ | ⟨rfl, q, hq, hx3⟩))
        · go_roundw
          · refine ⟨k + 1, by go_num, ?_, by omega, ?_, hKk.trans hk3⟩
            · rw [← HI.out]
              congr 1
              rw [Int.natCast_add, Int.add_mul]
              omega
            · rw [hks1.out, ← List.append_assoc]; exact hJ3
          · simp [intOf]; omega
        · go_ret
          exact .inr ⟨rfl, plK M S d place k ++ q, Hpf.out q hq, by rw [← List.append_assoc]; exact hx3⟩
      · have hkk : (k : Int) = cnt := by omega
        have hkn : cnt.toNat = k := by omega
        have Hkn := hide hkn
        have hK2 := hide (hK1.trans hKk)
        have HJk := hide hJk
        clear hkn hJk hKk
        gi_wp2
        go_ret
        exact .inl ⟨rfl, by rw [Hkn.out]; exact HJk.out, hK2.out⟩
end Go.Proofs.Ytiekkninnjffpaa
namespace Go.Proofs.Ytiekkninnjffpaa
open Go.ChangeShapes Go.RowKit Go.Shelf
set_option linter.unusedSimpArgs false
set_option linter.unusedVariables false

attribute [local go_sem] Oper.semAt_some

theorem foldl_mul (xs : List Int) : ∀ a : Int, xs.foldl (· * ·) a = a * xs.foldl (· * ·) 1 := by
  induction xs with
  | nil => intro a; simp
  | cons x xs ih =>
    intro a
    simp only [List.foldl_cons]
    rw [ih (a * x), ih (1 * x), Int.one_mul, Int.mul_assoc]
theorem prod_cons (n : Int) (xs : List Int) : prod (n :: xs) = n * prod xs := by
  unfold prod
  simp only [List.foldl_cons]
  rw [foldl_mul, Int.one_mul]
theorem mrg1_prod (n s : Int) : ∀ (ns ts : List Int), ns.length = ts.length → prod (mrg1 n s ns ts).1 = n * prod ns
  | [], [], _ => by
    rw [mrg1_nil]
    split
    · next h => subst h; simp [prod]
    · rw [prod_cons]
  | m :: ns, t :: ts, _ => by
    rw [mrg1_cons]
    split
    · next h => subst h; simp
    · split
      · rw [prod_cons, prod_cons, Int.mul_comm m n, Int.mul_assoc]
      · rw [prod_cons n (m :: ns)]
  | [], _ :: _, h => by simp at h
  | _ :: _, [], h => by simp at h
theorem mrg1_ge (n s : Int) (hn : 1 ≤ n) : ∀ (ns ts : List Int), (∀ m ∈ ns, 1 ≤ m) → ∀ m ∈ (mrg1 n s ns ts).1, 1 ≤ m
  | [], ts, h => by
    rw [mrg1_none]
    split
    · simp
    · intro k hk
      have : k = n := by simpa using hk
      omega
  | m :: ns, [], h => by
    rw [mrg1_half]
    split
    · exact h
    · intro k hk
      rcases List.mem_cons.1 hk with rfl | hk
      · exact hn
      · exact h k hk
  | m :: ns, t :: ts, h => by
    have hm : 1 ≤ m := h m (List.mem_cons_self ..)
    rw [mrg1_cons]
    split
    · exact h
    · split
      · intro k hk
        rcases List.mem_cons.1 hk with rfl | hk
        · have : 1 * 1 ≤ m * n := Int.mul_le_mul hm hn (by omega) (by omega)
          omega
        · exact h k (List.mem_cons_of_mem _ hk)
      · intro k hk
        rcases List.mem_cons.1 hk with rfl | hk
        · exact hn
        · exact h k hk
theorem mrg_prod : ∀ (xs ss : List Int), xs.length = ss.length → (∀ n ∈ xs, 1 ≤ n) → prod (mrg xs ss).1 = prod xs ∧ ∀ m ∈ (mrg xs ss).1, 1 ≤ m
  | [], [], _, _ => by simp [mrg]
  | n :: ns, s :: ss, h, hp => by
    have hl : ns.length = ss.length := by simpa using h
    have ih := mrg_prod ns ss hl (fun k hk => hp k (List.mem_cons_of_mem _ hk))
    refine ⟨?_, mrg1_ge n s (hp n (List.mem_cons_self ..)) _ _ ih.2⟩
    show prod (mrg1 n s _ _).1 = _
    rw [mrg1_prod n s _ _ (mrg_len ns ss hl), ih.1, prod_cons]
  | [], _ :: _, h, _ => by simp at h
  | _ :: _, [], h, _ => by simp at h
theorem le_prod : ∀ (ns : List Int), (∀ m ∈ ns, 1 ≤ m) → 1 ≤ prod ns ∧ ∀ m ∈ ns, m ≤ prod ns
  | [], _ => by simp [prod]
  | n :: ns, h => by
    have ih := le_prod ns (fun k hk => h k (List.mem_cons_of_mem _ hk))
    have hn := h n (List.mem_cons_self ..)
    rw [prod_cons]
    have h1 : n * 1 ≤ n * prod ns := Int.mul_le_mul_of_nonneg_left ih.1 (by omega)
    have h2 : 1 * prod ns ≤ n * prod ns := Int.mul_le_mul_of_nonneg_right hn (by omega)
    refine ⟨by omega, fun m hm => ?_⟩
    rcases List.mem_cons.1 hm with rfl | hm
    · omega
    · have := ih.2 m hm
      omega

/-- The places of a view, in order; none where it has no element. -/
def offsL (xs ss : List Int) (off : Int) : List Int := if prod xs = 0 then [] else places xs ss off

theorem grown_ext {A B : World} (x : Ext A B) : A.grownBy B none := ⟨x.bl.os, x.bl.tape, x.bl.output, x.bl.size, fun k hk _ => x.bl.block k hk⟩

theorem prod_pos_of {xs : List Int} (hr : InR xs xs.length) (h0 : prod xs ≠ 0) : ∀ n ∈ xs, 1 ≤ n := fun n hn => by
  obtain ⟨j, hj, e⟩ := getD_mem hn
  have h1 := (hr j hj).1
  rcases Int.lt_or_le n 1 with q | q
  · exfalso
    have hz : xs.getD j 0 = 0 := by omega
    have := prod_zero_aux' xs j hz xs.length hj (Nat.le_refl _)
    rw [List.take_length] at this
    exact h0 this
  · exact q
 where
  prod_zero_aux' (ys : List Int) (a : Nat) (h0 : ys.getD a 0 = 0) : ∀ k, a < k → k ≤ ys.length → prod (ys.take k) = 0
    | 0, h, _ => absurd h (Nat.not_lt_zero _)
    | k + 1, h, hk => by
      rw [prod_take ys k (by omega)]
      by_cases e : a = k
      · subst e; rw [h0]; simp
      · rw [prod_zero_aux' ys a h0 k (by omega) (by omega)]; simp

theorem mrg_len2 : ∀ (xs ss : List Int), xs.length = ss.length → (mrg xs ss).1.length ≤ xs.length
  | [], [], _ => by simp [mrg]
  | n :: ns, s :: ss, h => by
    have hl : ns.length = ss.length := by simpa using h
    have ih := mrg_len2 ns ss hl
    have hm : ∀ (a b : List Int), (mrg1 n s a b).1.length ≤ a.length + 1 := fun a b => by
      cases a with
      | nil => rw [mrg1_none]; split <;> simp
      | cons m a =>
        cases b with
        | nil => rw [mrg1_half]; split <;> simp
        | cons t b => rw [mrg1_cons]; split <;> (try split) <;> simp
    have h2 : (mrg (n :: ns) (s :: ss)).1.length ≤ (mrg ns ss).1.length + 1 := hm _ _
    simp only [List.length_cons]
    omega
  | [], _ :: _, h => by simp at h
  | _ :: _, [], h => by simp at h
/-- Every merged stride is one of the view's. -/
theorem mrg_strides : ∀ (xs ss : List Int), ∀ t ∈ (mrg xs ss).2, t ∈ ss
  | [], ss, t, h => by simp [mrg] at h
  | n :: ns, [], t, h => by simp [mrg] at h
  | n :: ns, s :: ss, t, h => by
    have ih := mrg_strides ns ss
    have hm : ∀ (a b : List Int), ∀ t ∈ (mrg1 n s a b).2, t ∈ s :: b := fun a b t ht => by
      cases a with
      | nil =>
        rw [mrg1_none] at ht
        split at ht
        · exact List.mem_cons_of_mem _ ht
        · exact ht
      | cons m a =>
        cases b with
        | nil =>
          rw [mrg1_half] at ht
          split at ht
          · exact List.mem_cons_of_mem _ ht
          · exact ht
        | cons u b =>
          rw [mrg1_cons] at ht
          split at ht
          · exact List.mem_cons_of_mem _ ht
          · split at ht
            · exact List.mem_cons_of_mem _ ht
            · exact ht
    rcases List.mem_cons.1 (hm _ _ t h) with rfl | h
    · exact List.mem_cons_self ..
    · exact List.mem_cons_of_mem _ (ih t h)

set_option maxRecDepth 100000 in
set_option maxHeartbeats 2000000 in
/-- The walk of the merged view goes by the view's own places. -/
theorem walk_merged (l b : Nat) (xs ss : List Int) (off : Int) (h4 : xs.length ≤ 4) (hl : ss.length = xs.length) (hr : InR xs xs.length) (hz : prod xs ≠ 0) (hp : prod xs ≤ 4096) (hss : InS ss ss.length) (ho : 0 ≤ off ∧ off ≤ 4096) (Pr : Int → Prop) (hPr : ∀ x ∈ offsL xs ss off, Pr x) (J Jx : List Int → World → Prop) (hJ : AbidesFrom b J)
    (hY : ∀ m pre x W, Pr x → J pre W → pre.length < (offsL xs ss off).length → YieldAt Fence.wide m Try.prog l #[.int .i64 x] W fun e W' =>
      (e = .returned (.bool true) ∧ J (pre ++ [x]) W' ∧ KC b W W') ∨ (e = .returned (.bool false) ∧ Jx (pre ++ [x]) W'))
    (n : Nat) (W : World) (hb : b ≤ W.heap.size) (h0 : J [] W) :
    CallsIn Fence.wide n Try.prog 84 #[.agg (vw (mrg xs ss).1.reverse (mrg xs ss).2.reverse off), .int .i64 (((mrg xs ss).1.reverse.length : Int) - 1), .int .i64 off, .func (.yield l) #[] #[]] W fun e W' =>
        (e = .returned (.bool true) ∧ J (offsL xs ss off) W') ∨ (e = .returned (.bool false) ∧ ∃ q, q <+: offsL xs ss off ∧ Jx q W') := by
  have hpos := prod_pos_of hr hz
  have hM := mrg_prod xs ss hl.symm hpos
  have hle := le_prod _ hM.2
  have hlen := mrg_len xs ss hl.symm
  have hlen4 := mrg_len2 xs ss hl.symm
  have hl4 : (mrg xs ss).1.reverse.length ≤ 4 := by rw [List.length_reverse]; omega
  have hpl : plD (mrg xs ss).1.reverse (mrg xs ss).2.reverse (mrg xs ss).1.reverse.length off = offsL xs ss off := by
    unfold plD offsL
    rw [if_neg hz, List.take_length, List.length_reverse, hlen, ← List.length_reverse, List.take_length, List.reverse_reverse, List.reverse_reverse]
    exact places_mrg xs ss off hl.symm (fun k hk => by have := hpos k hk; omega)
  have key := walk_in Fence.wide rfl trivial rfl l b (offsL xs ss off).length Pr J Jx hJ hY (mrg xs ss).1.reverse (mrg xs ss).2.reverse off (by simp; omega) (by simp [hlen])
    (fun m hm => by
      have h1 := hM.2 m (List.mem_reverse.1 hm)
      have h2 := hle.2 m (List.mem_reverse.1 hm)
      rw [hM.1] at h2
      omega)
    (fun t ht => by
      obtain ⟨j, hj, e⟩ := getD_mem (mrg_strides xs ss t (List.mem_reverse.1 ht))
      have := hss j hj
      omega)
    (mrg xs ss).1.reverse.length (Nat.le_refl _) n off [] W hb (by omega) h0 (by rw [hpl]; simp) (by rw [hpl]; exact hPr)
  rw [hpl] at key
  refine key.mono ?_
  rintro e W' (⟨rfl, h, _⟩ | ⟨rfl, q, hq, h⟩)
  · exact .inl ⟨rfl, by simpa using h⟩
  · exact .inr ⟨rfl, q, hq, by simpa using h⟩
end Go.Proofs.Ytiekkninnjffpaa
namespace Go.Proofs.Ytiekkninnjffpaa
open Go.ChangeShapes Go.RowKit Go.Shelf
set_option linter.unusedSimpArgs false
set_option linter.unusedVariables false

attribute [local go_sem] Oper.semAt_some

set_option maxRecDepth 100000 in
set_option maxHeartbeats 2000000 in
/-- The closure that 'places' answers. -/
theorem places1_in (n l Bf b : Nat) (xs ss : List Int) (off : Int) (h4 : xs.length ≤ 4) (hl : ss.length = xs.length) (hr : InR xs xs.length) (hp : prod xs ≤ 4096) (hss : InS ss ss.length) (ho : 0 ≤ off ∧ off ≤ 4096) (Pr : Int → Prop) (hPr : ∀ x ∈ offsL xs ss off, Pr x) (J Jx : List Int → World → Prop) (hJ : AbidesFrom b J)
    (hY : ∀ m pre x W, Pr x → J pre W → pre.length < (offsL xs ss off).length → YieldAt Fence.wide m Try.prog l #[.int .i64 x] W fun e W' =>
      (e = .returned (.bool true) ∧ J (pre ++ [x]) W' ∧ KC b W W') ∨ (e = .returned (.bool false) ∧ Jx (pre ++ [x]) W'))
    (W : World) (hb : b ≤ W.heap.size) (hc : ∀ j, j < 10 → W.cell? ⟨Bf, j, none⟩ = (vw xs ss off)[j]?) (h0 : J [] W) :
    CallsIn Fence.wide n Try.prog 82 #[.func (.yield l) #[] #[], .pointer (some ⟨Bf, 0, none⟩)] W fun e W' => (∃ v, e = .returned v) ∧
      ((∃ ys, ys = offsL xs ss off ∧ J ys W') ∨ (∃ pre, pre <+: offsL xs ss off ∧ Jx pre W')) := by
  have c0 : W.cell? ⟨Bf, 0, none⟩ = some (.int .i64 xs.length) := hc 0 (by omega)
  have c1 : W.cell? ⟨Bf, 1, none⟩ = some (.int .i64 (xs.getD 0 0)) := hc 1 (by omega)
  have c2 : W.cell? ⟨Bf, 2, none⟩ = some (.int .i64 (xs.getD 1 0)) := hc 2 (by omega)
  have c3 : W.cell? ⟨Bf, 3, none⟩ = some (.int .i64 (xs.getD 2 0)) := hc 3 (by omega)
  have c4 : W.cell? ⟨Bf, 4, none⟩ = some (.int .i64 (xs.getD 3 0)) := hc 4 (by omega)
  have c5 : W.cell? ⟨Bf, 5, none⟩ = some (.int .i64 (ss.getD 0 0)) := hc 5 (by omega)
  have c6 : W.cell? ⟨Bf, 6, none⟩ = some (.int .i64 (ss.getD 1 0)) := hc 6 (by omega)
  have c7 : W.cell? ⟨Bf, 7, none⟩ = some (.int .i64 (ss.getD 2 0)) := hc 7 (by omega)
  have c8 : W.cell? ⟨Bf, 8, none⟩ = some (.int .i64 (ss.getD 3 0)) := hc 8 (by omega)
  have c9 : W.cell? ⟨Bf, 9, none⟩ = some (.int .i64 off) := hc 9 (by omega)
  have hcnt : Hid (Calls Try.prog 61 #[.agg (shp xs)] W fun e W1 => e = .returned (.int .i64 (prod xs)) ∧ Ext W W1) := (count_any W xs h4 hr).mono (fun e W1 h => ⟨h.1, by rw [h.2]; exact (Ext.refl W).alloc _ _⟩)
  have hmgd := hide (fun W => merged_any W xs ss off h4 hl hr hss)
  have hwk := hide (fun hz n W hb h0 => walk_merged l b xs ss off h4 hl hr hz hp hss ho Pr hPr J Jx hJ hY n W hb h0)
  have hl4 : (mrg xs ss).1.reverse.length ≤ 4 := by rw [List.length_reverse]; have := mrg_len2 xs ss hl.symm; omega
  clear hY hc
  have hOz : prod xs = 0 → offsL xs ss off = [] := fun h => by unfold offsL; rw [if_pos h]
  generalize offsL xs ss off = OL at *
  unfold shp at hcnt
  unfold vw at hmgd hwk
  generalize (mrg xs ss).1.reverse = M at *
  generalize (mrg xs ss).2.reverse = S at *
  generalize xs.getD 0 0 = a0 at *
  generalize xs.getD 1 0 = a1 at *
  generalize xs.getD 2 0 = a2 at *
  generalize xs.getD 3 0 = a3 at *
  generalize ss.getD 0 0 = s0 at *
  generalize ss.getD 1 0 = s1 at *
  generalize ss.getD 2 0 = s2 at *
  generalize ss.getD 3 0 = s3 at *
  generalize M.getD 0 0 = m0 at *
  generalize M.getD 1 0 = m1 at *
  generalize M.getD 2 0 = m2 at *
  generalize M.getD 3 0 = m3 at *
  generalize S.getD 0 0 = t0 at *
  generalize S.getD 1 0 = t1 at *
  generalize S.getD 2 0 = t2 at *
  generalize S.getD 3 0 = t3 at *
  generalize hML : M.length = ml at *
  clear hML
  generalize hp0 : prod xs = p at *
  clear hp0
  have Hr := hide hr
  clear hr hss
  refine callsIn_of_wp Try.func82 rfl trivial ?_ rfl
  simp only [Try.ntmps82, List.size_toArray, List.length_cons, List.length_nil, Nat.reduceAdd, Nat.reduceSub, Array.replicate_succ, Array.replicate_zero, List.push_toArray, List.append_toArray, List.nil_append, List.cons_append]
  have hdd : ∀ k : Nat, (Fence.wide.depth.isSome = true → 1 ≤ k) := fun k h => by cases h
  by_cases hz : p = 0
  · have HO := hide (hOz hz)
    clear hOz hwk hmgd
    gi_wp2_with (refine ⟨trivial, hdd _, ?_⟩; gi_at_call 61; refine (callsIn_wide.2 hcnt.out).mono ?_; clear hcnt; rintro e W1 ⟨rfl, x1⟩)
    refine bodyPost_ret (results_none rfl _ _ _) rfl ?_
    exact ⟨⟨_, rfl⟩, .inl ⟨[], HO.out.symm, hJ [] _ _ none h0 (grown_ext x1) (fun r e => by cases e)⟩⟩
  · have hw := hide (hwk.out hz)
    clear hOz hwk
    gi_wp2_with (refine ⟨trivial, hdd _, ?_⟩; gi_at_call 61; refine (callsIn_wide.2 hcnt.out).mono ?_; clear hcnt; rintro e W1 ⟨rfl, x1⟩; have d0 := x1.box c0; have d1 := x1.box c1; have d2 := x1.box c2; have d3 := x1.box c3; have d4 := x1.box c4; have d5 := x1.box c5; have d6 := x1.box c6; have d7 := x1.box c7; have d8 := x1.box c8; have d9 := x1.box c9)
    refine ⟨trivial, hdd _, ?_⟩
    refine (callsIn_wide.2 (hmgd.out _)).mono ?_
    rintro e W2 ⟨rfl, x2⟩
    have hJ2 := hide (hJ [] _ _ none (hJ [] _ _ none h0 (grown_ext x1) (fun r e => by cases e)) (grown_ext x2) (fun r e => by cases e))
    have hs1 := x1.bl.size
    have hs2 := x2.bl.size
    clear hmgd d0 d1 d2 d3 d4 d5 d6 d7 d8 d9 c0 c1 c2 c3 c4 c5 c6 c7 c8 c9
    gi_wp2
    refine ⟨trivial, hdd _, ?_⟩
    refine (hw.out _ _ (by simp; omega) (hJ [] _ _ none hJ2.out (World.grownBy_alloc W2 _ none) (fun r e => by cases e))).mono ?_
    rintro e W3 (⟨rfl, hJ3⟩ | ⟨rfl, q, hq, hx⟩)
    · gi_wp2
      go_end0
      exact ⟨⟨_, rfl⟩, .inl ⟨_, rfl, hJ3⟩⟩
    · gi_wp2
      go_end0
      exact ⟨⟨_, rfl⟩, .inr ⟨q, hq, hx⟩⟩

set_option maxRecDepth 100000 in
set_option maxHeartbeats 1000000 in
/-- places: the view is boxed; the function value captures the box. -/
theorem placesF_in (n : Nat) (xs ss : List Int) (off : Int) (w : World) :
    CallsIn Fence.wide n Try.prog 62 #[.agg (vw xs ss off)] w fun e w' => e = .returned (.func (.func 82) #[] #[.pointer (some ⟨w.heap.size, 0, none⟩)]) ∧ w' = w.alloc (.cells (vw xs ss off) 64) := by
  unfold vw
  refine callsIn_of_wp Try.func62 rfl trivial ?_ rfl
  simp only [Try.ntmps62, List.size_toArray, List.length_cons, List.length_nil, Nat.reduceAdd, Nat.reduceSub, Array.replicate_succ, Array.replicate_zero, List.push_toArray, List.append_toArray, List.nil_append, List.cons_append]
  gi_wp2
  go_ret
  exact ⟨rfl, rfl⟩

theorem yield_any {m : Nat} (m' : Nat) {P : Program} {l : Nat} {args : Array Value} {W : World} {R : Ending → World → Prop} (h : YieldAt Fence.wide m P l args W R) : YieldAt Fence.wide m' P l args W R := by
  obtain ⟨fn, tmps, assign, body, hy, hR⟩ := h
  exact ⟨fn, tmps, assign, body, hy, hR.1, fun c cs _ => hR.2 c cs (room_of_none rfl _)⟩
theorem kc_put {n : Nat} {w : World} (W : World) (l : Nat) (o o' : Obj) (_ : w.heap.size ≤ l) (h : W.heap[l]? = some o) (hc : o.isCells = false) (_ : o.isWalk = false) : KC n W (W.putObj l o') := by
  have g := grownBy_putObj' W l o'
  refine ⟨g.size, fun k o2 hb h2 hc2 => ?_⟩
  have hk : k < W.heap.size := (Array.getElem?_eq_some_iff.1 h2).1
  have hne : k ≠ l := fun e => by
    subst e
    rw [h] at h2
    cases h2
    rw [hc] at hc2
    cases hc2
  exact (g.block k hk (fun e => hne (by cases e; rfl))).trans h2

/-- A place of a store. -/
abbrev Pl := { x : Int // 0 ≤ x ∧ x < 4096 }
def plv (ps : List Pl) : List Int := ps.map (·.1)
theorem plv_append (p q : List Pl) : plv (p ++ q) = plv p ++ plv q := List.map_append ..
theorem plv_len (p : List Pl) : (plv p).length = p.length := List.length_map ..

/-- What 'places' answers is a function that goes by the places of the view in order. -/
theorem places_stops (n Bf n₀ : Nat) (xs ss : List Int) (off : Int) (h4 : xs.length ≤ 4) (hl : ss.length = xs.length) (hr : InR xs xs.length) (hp : prod xs ≤ 4096) (hss : InS ss ss.length) (ho : 0 ≤ off ∧ off ≤ 4096) (hPr : ∀ x ∈ offsL xs ss off, 0 ≤ x ∧ x < 4096) (w : World) (hn : n₀ ≤ w.heap.size)
    (hc : ∀ j, j < 10 → w.cell? ⟨Bf, j, none⟩ = (vw xs ss off)[j]?) (hBf : Bf < w.heap.size) :
    SeqStopsK Fence.wide n Try.prog 82 #[.pointer (some ⟨Bf, 0, none⟩)] (fun x : Pl => #[Value.int .i64 x.1]) (KC n₀) (fun ys => plv ys = offsL xs ss off) (fun pre => plv pre <+: offsL xs ss off) (offsL xs ss off).length w := fun l J Jx W hW hJ hJx hY h0 => by
  have hbW : w.heap.size ≤ W.heap.size := hW.size
  have hc2 : ∀ j, j < 10 → W.cell? ⟨Bf, j, none⟩ = (vw xs ss off)[j]? := fun j hj => (hW.cell (p := ⟨Bf, j, none⟩) hBf).trans (hc j hj)
  have key := places1_in n l Bf W.heap.size xs ss off h4 hl hr hp hss ho (fun x => 0 ≤ x ∧ x < 4096) hPr (fun pre W => ∃ ps, plv ps = pre ∧ J ps W) (fun pre W => ∃ ps, plv ps = pre ∧ Jx ps W)
    (fun pre A B row ⟨ps, e, h⟩ hg hrow => ⟨ps, e, hJ ps A B row h hg hrow⟩)
    (fun m pre x A hx ⟨ps, e, h⟩ hlen => by
      subst e
      have hy := yield_any m (hY ps ⟨x, hx⟩ A h (by rw [← plv_len]; exact hlen))
      refine hy.mono ?_
      rintro e W' (⟨rfl, h1, h2⟩ | ⟨rfl, h1⟩)
      · exact .inl ⟨rfl, ⟨_, plv_append _ _, h1⟩, ⟨h2.size, fun k o hb h hc => h2.keep k o (by omega) h hc⟩⟩
      · exact .inr ⟨rfl, ⟨_, plv_append _ _, h1⟩⟩)
    W (Nat.le_refl _) hc2 ⟨[], rfl, h0⟩
  refine key.mono ?_
  rintro e W' ⟨hv, ⟨ys, rfl, ps, e1, h⟩ | ⟨pre, hpre, ps, e1, h⟩⟩
  · exact ⟨hv, .inl ⟨ps, e1, h⟩⟩
  · exact ⟨hv, .inr ⟨ps, by show plv ps <+: _; rw [e1]; exact hpre, h⟩⟩
end Go.Proofs.Ytiekkninnjffpaa
namespace Go.Proofs.Ytiekkninnjffpaa
open Go.ChangeShapes Go.RowKit Go.Shelf
set_option linter.unusedSimpArgs false
set_option linter.unusedVariables false

attribute [local go_sem] Oper.semAt_some

theorem zero95 : Try.zeroCells95 = Array.replicate 4096 (.bool false) := by kernel_rfl
theorem zero95_get (j : Nat) (hj : j < 4096) : Try.zeroCells95[j]? = some (.bool false) := by
  rw [zero95, Array.getElem?_replicate, if_pos hj]
theorem KC.setCell {b : Nat} (A : World) {p : Addr} (hp : p.block < b) (v : Value) : KC b A (A.setCell p v) :=
  ⟨(KeepsWalks.setCell A _ v).size, fun k o hk h _ => (Below.heap_setCell _ _ _ k (fun e => by omega)).trans h⟩

/-- The marks of the places that have come. -/
structure Mk (W : World) (Bs : Nat) (L : List Int) : Prop where
  at_ : ∀ j : Nat, j < 4096 → W.cell? ⟨Bs, j, none⟩ = some (.bool (decide ((j : Int) ∈ L)))
  fz : ∀ j : Nat, j < 4096 → W.frozen? ⟨Bs, j, none⟩ = false
theorem Mk.kept {W W' : World} {Bs : Nat} {L : List Int} {row : Option Nat} (h : Mk W Bs L) (hg : W.grownBy W' row) (hr : ∀ r, row = some r → ∃ o : Obj, W.heap[r]? = some o ∧ o.isCells = false) : Mk W' Bs L :=
  ⟨fun j hj => cell_kept (h.at_ j hj) hg hr, fun j hj => (frozen_kept (h.at_ j hj) hg hr).trans (h.fz j hj)⟩
theorem Mk.other {W : World} {Bs B o : Nat} {L : List Int} (h : Mk W Bs L) (hB : B ≠ Bs) (v : Value) : Mk (W.setCell ⟨B, o, none⟩ v) Bs L :=
  ⟨fun j hj => (World.cell?_of_block (Below.heap_setCell _ _ _ Bs (fun e => hB (show B = Bs from e.symm)))).trans (h.at_ j hj), fun j hj => (World.frozen?_setCell _ _ _ _).trans (h.fz j hj)⟩
theorem Mk.mark {W : World} {Bs : Nat} {L : List Int} (h : Mk W Bs L) (k : Nat) (hk : k < 4096) : Mk (W.setCell ⟨Bs, k, none⟩ (.bool true)) Bs (L ++ [(k : Int)]) := by
  refine ⟨fun j hj => ?_, fun j hj => (World.frozen?_setCell _ _ _ _).trans (h.fz j hj)⟩
  by_cases e : j = k
  · subst e
    rw [World.cell?_setCell_same' _ _ _ (by rw [h.at_ j hj]; rfl)]
    simp
  · rw [show (W.setCell ⟨Bs, k, none⟩ (.bool true)).cell? ⟨Bs, j, none⟩ = W.cell? ⟨Bs, j, none⟩ from World.cell?_setCell_other _ _ _ _ (fun q => e (by cases q; rfl)), h.at_ j hj]
    have : ((j : Int) ∈ L ++ [(k : Int)]) ↔ ((j : Int) ∈ L) := by
      simp only [List.mem_append, List.mem_singleton]
      exact ⟨fun q => q.elim id (fun q => absurd (by omega) e), Or.inl⟩
    simp only [this]

/-- The same over a view that has just been boxed. -/
theorem placesK (n Bf : Nat) (xs ss : List Int) (off : Int) (h4 : xs.length ≤ 4) (hl : ss.length = xs.length) (hr : InR xs xs.length) (hp : prod xs ≤ 4096) (hss : InS ss ss.length) (ho : 0 ≤ off ∧ off ≤ 4096) (hPr : ∀ x ∈ offsL xs ss off, 0 ≤ x ∧ x < 4096) (W : World) (hB : Bf = W.heap.size) :
    SeqStopsK Fence.wide n Try.prog 82 #[.pointer (some ⟨Bf, 0, none⟩)] (fun x : Pl => #[Value.int .i64 x.1]) (KC (W.alloc (.cells (vw xs ss off) 64)).heap.size) (fun ys => plv ys = offsL xs ss off) (fun pre => plv pre <+: offsL xs ss off) (offsL xs ss off).length (W.alloc (.cells (vw xs ss off) 64)) := by
  subst hB
  exact places_stops n _ _ xs ss off h4 hl hr hp hss ho hPr _ (Nat.le_refl _) (fun j _ => new_cell W _ 64 W.heap.size rfl j) (by simp)

theorem cell_al {W : World} {a : Addr} {v : Value} (o : Obj) (h : W.cell? a = some v) : (W.alloc o).cell? a = some v := cell_kept h (World.grownBy_alloc W o none) (fun r e => by cases e)
theorem frozen_al {W : World} {a : Addr} {v : Value} (o : Obj) (h : W.cell? a = some v) (hf : W.frozen? a = false) : (W.alloc o).frozen? a = false := (frozen_kept h (World.grownBy_alloc W o none) (fun r e => by cases e)).trans hf
theorem frozen_nw (W : World) (cs : Array Value) (t b j : Nat) (hb : b = W.heap.size) : (W.alloc (.cells cs t)).frozen? ⟨b, j, none⟩ = false := by
  subst hb
  have h := World.alloc_heap_new W (.cells cs t)
  unfold World.frozen?
  simp only [h]
  simp

/-- The world where the loop begins. -/
structure DSt (w W0 : World) : Prop where
  size : W0.heap.size = w.heap.size + 4
  res : W0.cell? ⟨w.heap.size + 1, 0, none⟩ = some (.bool false)
  resF : W0.frozen? ⟨w.heap.size + 1, 0, none⟩ = false
  mrk : Mk W0 (w.heap.size + 1 + 1) []
  bl : Below w.heap.size w W0
theorem DSt.start (w : World) (V : Array Value) : DSt w ((((w.alloc (.cells V 64)).alloc (.cells #[.bool false] 4)).alloc (.cells Try.zeroCells95 95)).alloc (.cells V 64)) := by
  have hb1 : Below w.heap.size w (w.alloc (.cells V 64)) := (Below.refl _ w).alloc (Nat.le_refl _) _
  have hb2 : Below w.heap.size w ((w.alloc (.cells V 64)).alloc (.cells #[.bool false] 4)) := hb1.alloc (by simp) _
  have hb3 : Below w.heap.size w (((w.alloc (.cells V 64)).alloc (.cells #[.bool false] 4)).alloc (.cells Try.zeroCells95 95)) := hb2.alloc (by simp; omega) _
  have c1 : ((w.alloc (.cells V 64)).alloc (.cells #[.bool false] 4)).cell? ⟨w.heap.size + 1, 0, none⟩ = some (.bool false) := new_cell _ _ 4 _ (by simp) 0
  have f1 : ((w.alloc (.cells V 64)).alloc (.cells #[.bool false] 4)).frozen? ⟨w.heap.size + 1, 0, none⟩ = false := frozen_nw _ _ 4 _ 0 (by simp)
  have c2 : ∀ j, j < 4096 → (((w.alloc (.cells V 64)).alloc (.cells #[.bool false] 4)).alloc (.cells Try.zeroCells95 95)).cell? ⟨w.heap.size + 1 + 1, j, none⟩ = some (.bool false) := fun j hj => (new_cell _ _ 95 _ (by simp) j).trans (zero95_get j hj)
  have f2 : ∀ j, j < 4096 → (((w.alloc (.cells V 64)).alloc (.cells #[.bool false] 4)).alloc (.cells Try.zeroCells95 95)).frozen? ⟨w.heap.size + 1 + 1, j, none⟩ = false := fun j _ => frozen_nw _ _ 95 _ j (by simp)
  exact ⟨by simp, cell_al _ (cell_al _ c1), frozen_al _ (cell_al _ c1) (frozen_al _ c1 f1), ⟨fun j hj => by rw [cell_al _ (c2 j hj)]; simp, fun j hj => frozen_al _ (c2 j hj) (f2 j hj)⟩, hb3.alloc (by simp; omega) _⟩

set_option maxRecDepth 100000 in
set_option maxHeartbeats 1000000 in
theorem differ_in (n : Nat) (hn : 3 ≤ n) (xs ss : List Int) (off : Int) (w : World) (h4 : xs.length ≤ 4) (hl : ss.length = xs.length) (hr : InR xs xs.length) (hp : prod xs ≤ 4096) (hss : InS ss ss.length) (ho : 0 ≤ off ∧ off ≤ 4096) (hPr : ∀ x ∈ offsL xs ss off, 0 ≤ x ∧ x < 4096) :
    CallsIn Fence.wide n Try.prog 59 #[.agg (vw xs ss off)] w fun e w' => e = .returned (.bool (decide (offsL xs ss off).Nodup)) ∧ Below w.heap.size w w' := by
  have hpl := hide (fun n W => placesF_in n xs ss off W)
  have hst := hide (placesK (n - 1) (w.heap.size + 1 + 1 + 1) xs ss off h4 hl hr hp hss ho hPr (((w.alloc (.cells (vw xs ss off) 64)).alloc (.cells #[.bool false] 4)).alloc (.cells Try.zeroCells95 95)) (by simp))
  have hdd : ∀ k : Nat, (Fence.wide.depth.isSome = true → 1 ≤ k) := fun k h => by cases h
  have X0 := hide (DSt.start w (vw xs ss off))
  clear hPr hss hp hr ho hl h4
  generalize offsL xs ss off = OL at *
  unfold vw at hpl X0 hst ⊢
  generalize xs.getD 0 0 = a0 at *
  generalize xs.getD 1 0 = a1 at *
  generalize xs.getD 2 0 = a2 at *
  generalize xs.getD 3 0 = a3 at *
  generalize ss.getD 0 0 = s0 at *
  generalize ss.getD 1 0 = s1 at *
  generalize ss.getD 2 0 = s2 at *
  generalize ss.getD 3 0 = s3 at *
  refine callsIn_of_wp_marks Try.func59 rfl trivial ?_ rfl
  simp only [Try.ntmps59, List.size_toArray, List.length_cons, List.length_nil, Nat.reduceAdd, Nat.reduceSub, Array.replicate_succ, Array.replicate_zero, List.push_toArray, List.append_toArray, List.nil_append, List.cons_append]
  gi_wp2
  refine ⟨trivial, hdd _, ?_⟩
  refine (hpl.out _ _).mono ?_
  rintro e w' ⟨rfl, rfl⟩
  clear hpl
  have h1 : 1 ≤ n := by omega
  gi_wp2
  generalize hW0 : World.alloc (((w.alloc _).alloc _).alloc _) _ = W0 at X0 hst ⊢
  clear hW0
  have hsz := X0.out.size
  refine wpIn_rangeFunc_ownF rfl h1 (gf := 82) (lb := #[.pointer (some ⟨w.heap.size + 1 + 1 + 1, 0, none⟩)]) rfl trivial (enters_of Try.func82 (by kernel_rfl) rfl)
    hst.out (fun h k => KC.trans h k) (fun W l o o' h1 h2 h3 h4 => kc_put W l o o' h1 h2 h3 h4) (Below.refl _ _) (fun _ => rfl)
    (fun pre W => ((plv pre).Nodup ∧ W.cell? ⟨w.heap.size + 1, 0, none⟩ = some (.bool false) ∧ W.frozen? ⟨w.heap.size + 1, 0, none⟩ = false ∧ Mk W (w.heap.size + 1 + 1) (plv pre)) ∧ Below w.heap.size w W)
    (fun c pre W => (c = .ret ∧ ¬ (plv pre).Nodup ∧ W.cell? ⟨w.heap.size + 1, 0, none⟩ = some (.bool false)) ∧ Below w.heap.size w W)
    (OwnFrom.and (Own.from (fun s A B row hs hg hr => ⟨hs.1, cell_kept hs.2.1 hg hr, (frozen_kept hs.2.1 hg hr).trans hs.2.2.1, hs.2.2.2.kept hg hr⟩) _) (ownFrom_below (Nat.le_refl _) (by omega)))
    (fun c => OwnFrom.and (Own.from (fun s A B row hs hg hr => ⟨hs.1, hs.2.1, cell_kept hs.2.2 hg hr⟩) _) (ownFrom_below (Nat.le_refl _) (by omega)))
    ⟨⟨by simp [plv], X0.out.res, X0.out.resF, X0.out.mrk⟩, X0.out.bl⟩
    (fun x => { tmps := #[.agg #[.int .i64 xs.length, .int .i64 a0, .int .i64 a1, .int .i64 a2, .int .i64 a3, .int .i64 s0, .int .i64 s1, .int .i64 s2, .int .i64 s3, .int .i64 off], .pointer (some ⟨w.heap.size, 0, none⟩), .pointer (some ⟨w.heap.size + 1, 0, none⟩), .pointer (some ⟨w.heap.size + 1 + 1, 0, none⟩), .int .i64 x.1, .agg #[.int .i64 xs.length, .int .i64 a0, .int .i64 a1, .int .i64 a2, .int .i64 a3, .int .i64 s0, .int .i64 s1, .int .i64 s2, .int .i64 s3, .int .i64 off], .func (.func 82) #[] #[.pointer (some ⟨w.heap.size + 1 + 1 + 1, 0, none⟩)], .int .i64 x.1, undef, undef, undef, undef, undef], defers := [] }) ?assign ?body ?done ?stop
  case assign =>
    intro l x W K hK
    gi_wp2
    exact hK
  case body =>
    rintro l pre ⟨x, hx⟩ W ⟨⟨hnd, hcr, hfr, hmk⟩, hB⟩ _
    obtain ⟨k, rfl⟩ : ∃ k : Nat, x = k := ⟨x.toNat, by omega⟩
    have hk : k < 4096 := by omega
    have q0 := hmk.at_ k hk
    have q1 := hmk.fz k hk
    by_cases hin : (k : Int) ∈ plv pre
    · rw [decide_eq_true hin] at q0
      gi_wp2
      exact ⟨KeepsOthers.setCell _ _ _, ⟨rfl, fun h => by
        rw [plv_append] at h
        exact (List.nodup_append.1 h).2.2 _ hin _ (List.mem_singleton.2 rfl) rfl, World.cell?_setCell_same' _ _ _ (by rw [hcr]; rfl)⟩, hB.setCell (p := ⟨w.heap.size + 1, 0, none⟩) (by simp) _⟩
    · rw [decide_eq_false hin] at q0
      gi_wp2
      refine ⟨KeepsOthers.setCell _ _ _, KC.setCell W (p := ⟨w.heap.size + 1 + 1, k, none⟩) (by show w.heap.size + 1 + 1 < _; omega) _, ⟨?_, ?_, ?_, ?_⟩, hB.setCell (p := ⟨w.heap.size + 1 + 1, k, none⟩) (by show _ ≤ w.heap.size + 1 + 1; omega) _⟩
      · rw [plv_append]
        refine List.nodup_append.2 ⟨hnd, by simp [plv], fun a ha b hb e => ?_⟩
        have : b = (k : Int) := by simpa [plv] using hb
        subst this
        subst e
        exact hin ha
      · exact (World.cell?_of_block (Below.heap_setCell _ _ _ _ (by show w.heap.size + 1 ≠ w.heap.size + 1 + 1; omega))).trans hcr
      · exact (World.frozen?_setCell _ _ _ _).trans hfr
      · rw [plv_append]; exact hmk.mark k hk
  case done =>
    rintro D ys W hD hS ⟨⟨hnd, hcr, hfr, hmk⟩, hB⟩ hK
    gi_wp2
    have hK' := (KeepsOthers.setCell W ⟨w.heap.size + 1, 0, none⟩ (.bool true)).same D _ hK rfl
    refine ⟨by simp, .inl ⟨_, _, rfl, run_takeDeferred hK', ?_⟩⟩
    have hc5 := cell_kept (World.cell?_setCell_same' W ⟨w.heap.size + 1, 0, none⟩ (.bool true) (by rw [hcr]; rfl)) (grownBy_putObj' _ D (.deferred none)) (fun r e => by cases e; exact ⟨_, hK', rfl⟩)
    refine ⟨.bool true, ?_, by rw [decide_eq_true (by rw [← hS]; exact hnd)], (hB.setCell (p := ⟨w.heap.size + 1, 0, none⟩) (by simp) _).trans (belowK_b (w := w) (Nat.le_refl _) _ D _ _ (by omega) hK' rfl rfl)⟩
    simp [results, Try.f59, go_sem, hc5]
  case stop =>
    rintro D c pre W hD hpre ⟨⟨rfl, hnd, hcr⟩, hB⟩ hK
    gi_wp2
    refine ⟨by simp, .inl ⟨_, _, rfl, run_takeDeferred hK, ?_⟩⟩
    have hc5 := cell_kept hcr (grownBy_putObj' _ D (.deferred none)) (fun r e => by cases e; exact ⟨_, hK, rfl⟩)
    refine ⟨.bool false, ?_, by rw [decide_eq_false (fun h => hnd (List.Sublist.nodup hpre.sublist h))], hB.trans (belowK_b (w := w) (Nat.le_refl _) W D _ _ (by omega) hK rfl rfl)⟩
    simp [results, Try.f59, go_sem, hc5]
end Go.Proofs.Ytiekkninnjffpaa
namespace Go.Proofs.Ytiekkninnjffpaa
open Go.ChangeShapes Go.RowKit
set_option linter.unusedSimpArgs false
set_option linter.unusedVariables false

/-- A view that may be written. -/
abbrev WrV (xs ss : List Int) (off : Int) : Prop := ValidV xs ss off ∧ (offsL xs ss off).Nodup
def dcWrV (xs ss : List Int) (off : Int) : Bool := decide (WrV xs ss off)
theorem dcWrV_t {xs ss : List Int} {off : Int} (h : WrV xs ss off) : dcWrV xs ss off = true := decide_eq_true h
theorem dcWrV_f {xs ss : List Int} {off : Int} (h : ¬ WrV xs ss off) : dcWrV xs ss off = false := decide_eq_false h

theorem offs_in {xs ss : List Int} {off : Int} (hv : ValidV xs ss off) : ∀ x ∈ offsL xs ss off, 0 ≤ x ∧ x < 4096 := fun x hx => by
  unfold offsL at hx
  split at hx
  · cases hx
  · next hz =>
    obtain ⟨hg, hl, _, _, h | h⟩ := hv
    · exact absurd h hz
    · exact (all_in xs ss off hl.symm (fun n hn => (good_pos hg hz n hn).1)).2 h x hx
theorem differ_any {xs ss : List Int} {off : Int} (hv : ValidV xs ss off) (w : World) :
    Calls Try.prog 59 #[.agg (vw xs ss off)] w fun e w' => e = .returned (.bool (decide (offsL xs ss off).Nodup)) ∧ Bel w w' :=
  callsIn_wide.1 (differ_in 3 (Nat.le_refl _) xs ss off w hv.1.1 hv.2.1 hv.1.2.1 hv.1.2.2 hv.2.2.2.1 hv.2.2.1 (offs_in hv))

set_option maxRecDepth 100000 in
set_option maxHeartbeats 2000000 in
theorem iWR_any {w : World} {vS vT : Value} {xs ss : List Int} (hS : Ints w vS xs) (hT : Ints w vT ss) (off : Int) (lx : xs.length ≤ 1048576) (ls : ss.length ≤ 1048576) :
    Calls Try.prog 27 #[.agg #[vS, vT, .int .i64 off]] w fun e w' => e = .returned (.bool (dcWrV xs ss off)) ∧ Bel w w' := by
  have x0 : Ext w (w.alloc (.cells #[vS, vT, .int .i64 off] 27)) := (Ext.refl w).alloc _ _
  have X0 := hide x0
  have HS := hide (hS.ext x0)
  have HT := hide (hT.ext x0)
  obtain ⟨sa, cap, rfl, _⟩ := hS
  obtain ⟨ta, dap, rfl, _⟩ := hT
  clear x0
  go_enter Try.func27, Try.ntmps27
  go_wp2_with fail
  refine (fixView_any HS.out HT.out off lx ls).mono ?_
  rintro e w1 ⟨A, rfl, hA, ⟨a0, a1, a2, a3, a4, a5, a6, a7, a8, a9, rfl⟩, x1⟩
  have X1 := hide (X0.out.trans x1)
  clear x1
  by_cases hv : ValidV xs ss off
  · have HD : Hid (∀ W, Calls Try.prog 59 #[.agg #[.int .i64 a0, .int .i64 a1, .int .i64 a2, .int .i64 a3, .int .i64 a4, .int .i64 a5, .int .i64 a6, .int .i64 a7, .int .i64 a8, .int .i64 a9]] W fun e w' => e = .returned (.bool (dcWrV xs ss off)) ∧ Bel W w') := fun W => by
      rw [hA hv]
      have : (dcWrV xs ss off) = decide (offsL xs ss off).Nodup := by
        by_cases h : (offsL xs ss off).Nodup
        · rw [decide_eq_true h, dcWrV_t (show WrV xs ss off from ⟨hv, h⟩)]
        · rw [decide_eq_false h, dcWrV_f (fun q : WrV xs ss off => h q.2)]
      rw [this]
      exact differ_any hv W
    rw [dcValidV_t hv]
    clear hA hv HS HT X0
    have hs1 := X1.out.bl.size
    generalize hr : (dcWrV xs ss off) = r at *
    have Hr := hide hr
    clear hr
    go_wp2_with (go_at_call 59; refine (HD.out _).mono ?_; rintro e w2 ⟨rfl, x2⟩)
    go_ret
    exact ⟨ret_bool Hr.out.symm, Bel.tr (X1.out.alloc _ _).bl x2⟩
  · have hno : Hid ((dcWrV xs ss off) = false) := decide_eq_false (fun q => hv q.1)
    rw [dcValidV_f hv]
    clear hA hv HS HT X0
    go_wp2
    go_ret
    exact ⟨ret_bool hno.out.symm, (X1.out.alloc _ _).bl⟩
end Go.Proofs.Ytiekkninnjffpaa
namespace Go.Proofs.Ytiekkninnjffpaa
open Go.ChangeShapes Go.RowKit Go.Shelf
set_option linter.unusedSimpArgs false
set_option linter.unusedVariables false

theorem list_nil {w w' : World} {L : List Int} (h : L = []) (sa : Option Addr) (cap : Nat) (hB : Below w.heap.size w w') : ListOk w L (.returned (.slice sa 0 cap)) w' := by
  subst h
  exact ⟨sa, cap, rfl, Or.inl rfl, hB⟩
theorem ListOk.from {w w1 w' : World} {L : List Int} {e : Ending} (hB : Below w.heap.size w w1) (h : ListOk w1 L e w') : ListOk w L e w' := by
  obtain ⟨sa, cap, h1, h2, h3⟩ := h
  refine ⟨sa, cap, h1, ?_, hB.trans (h3.mono hB.size)⟩
  rcases h2 with h2 | ⟨g, h4, h5, h6⟩
  · exact Or.inl h2
  · exact Or.inr ⟨g, h4, Nat.le_trans hB.size h5, h6⟩

set_option maxRecDepth 100000 in
set_option maxHeartbeats 1000000 in
/-- l2Offsets. -/
theorem l2Offsets_any {w : World} {vS vT : Value} {xs ss : List Int} (hS : Ints w vS xs) (hT : Ints w vT ss) (off : Int) (hv : ValidV xs ss off) :
    Calls Try.prog 58 #[.agg #[vS, vT, .int .i64 off]] w fun e w' => ListOk w (offsL xs ss off) e w' := by
  obtain ⟨hg, hl, ho, hin, _⟩ := hv
  have x0 : Ext w (w.alloc (.cells #[vS, vT, .int .i64 off] 27)) := (Ext.refl w).alloc _ _
  have X0 := hide x0.bl
  have HS := hide (hS.ext x0)
  have HT := hide (hT.ext x0)
  have n1 := fun j => new_cell w #[vS, vT, .int .i64 off] 27 w.heap.size rfl j
  have k0 := n1 0
  have k1 := n1 1
  have k2 := n1 2
  clear n1 x0
  obtain ⟨sa, cap, rfl, _⟩ := hS
  obtain ⟨ta, dap, rfl, _⟩ := hT
  have hcn : cntL xs = prod xs := if_pos hg
  have hx4 := hg.1
  have hpb := prod_bd xs xs.length hg.1 (Nat.le_refl _) hg.2.1
  rw [List.take_length] at hpb
  have hOz : Hid (prod xs = 0 → offsL xs ss off = []) := fun h => by unfold offsL; rw [if_pos h]
  have hpl : Hid (prod xs ≠ 0 → ∀ w, Ints w (.slice sa xs.length cap) xs → Ints w (.slice ta ss.length dap) ss → Calls Try.prog 52 #[.agg #[.slice sa xs.length cap, .slice ta ss.length dap, .int .i64 off], .int .i64 0, .int .i64 off] w fun e w' => ListOk w (offsL xs ss off) e w') := fun hz w h1 h2 => by
    have hst : ∀ s ∈ ss, -4096 ≤ s ∧ s ≤ 4096 := fun s hs => by
      obtain ⟨j, hj, rfl⟩ := getD_mem hs
      exact hin j hj
    have hpln : plen xs ≤ 4096 := by
      have h1 := prod_plen (fun m hm => (good_nonneg hg m hm).1)
      have h2 := hg.2.2
      omega
    have key := places_any xs ss hl.symm hx4 (good_pos hg hz) hst off _ _ xs.length 0 (by omega) w off h1 h2 (by rw [List.drop_zero]; exact hpln) (by omega)
    rw [List.drop_zero, List.drop_zero] at key
    unfold offsL
    rw [if_neg hz]
    exact key
  have Hcnt := hide (l2Count_any HS.out (by omega))
  rw [hcn] at Hcnt
  have Hg := hide hg
  clear hg hcn hin hl
  go_enter Try.func58, Try.ntmps58
  go_wp2_with fail
  generalize hW0 : w.alloc (.cells #[.slice sa xs.length cap, .slice ta ss.length dap, .int .i64 off] 27) = W0 at X0 HS HT k0 k1 k2 Hcnt ⊢
  clear hW0
  refine Hcnt.out.mono ?_
  clear Hcnt
  rintro e w' ⟨rfl, rfl⟩
  generalize prod xs = P at *
  by_cases hz : P = 0
  · have HO := hide (hOz.out hz)
    subst hz
    clear hpl hOz
    go_wp2
    go_ret
    exact list_nil HO.out _ _ (by first | exact X0.out | exact X0.out.alloc X0.out.size _)
  · have HP := hide (hpl.out hz _ HS.out HT.out)
    have hPn : (P == 0) = false := by simp [hz]
    clear hpl hOz
    go_wp2_with (go_at_call 52; refine HP.out.mono ?_; intro e w2 hok; obtain ⟨sa2, cap2, rfl, hok2⟩ := hok)
    go_ret
    exact ListOk.from X0.out ⟨sa2, cap2, rfl, hok2⟩

/-- The answer of Offsets. -/
def offsA (xs ss : List Int) (off : Int) : List Int := if ValidV xs ss off then offsL xs ss off else []

set_option maxRecDepth 100000 in
set_option maxHeartbeats 1000000 in
/-- spec.Offsets. -/
theorem sOF_any {w : World} {vS vT : Value} {xs ss : List Int} (hS : Ints w vS xs) (hT : Ints w vT ss) (off : Int) (lx : xs.length ≤ 1048576) (ls : ss.length ≤ 1048576) :
    Calls Try.prog 30 #[.agg #[vS, vT, .int .i64 off]] w fun e w' => ListOk w (offsA xs ss off) e w' := by
  have x0 : Ext w (w.alloc (.cells #[vS, vT, .int .i64 off] 27)) := (Ext.refl w).alloc _ _
  have X0 := hide x0.bl
  have HS := hide (hS.ext x0)
  have HT := hide (hT.ext x0)
  have n1 := fun j => new_cell w #[vS, vT, .int .i64 off] 27 w.heap.size rfl j
  have k0 := n1 0
  have k1 := n1 1
  have k2 := n1 2
  clear n1 x0
  obtain ⟨sa, cap, rfl, _⟩ := hS
  obtain ⟨ta, dap, rfl, _⟩ := hT
  go_enter Try.func30, Try.ntmps30
  go_wp2_with fail
  generalize hW0 : w.alloc (.cells #[.slice sa xs.length cap, .slice ta ss.length dap, .int .i64 off] 27) = W0 at X0 HS HT k0 k1 k2 ⊢
  clear hW0
  refine (sVV_any HS.out HT.out off lx ls).mono ?_
  rintro e W1 ⟨rfl, B1⟩
  have X1 := hide (X0.out.trans (B1.mono X0.out.size))
  have HS1 := hide (HS.out.below B1)
  have HT1 := hide (HT.out.below B1)
  have d0 := B1.cell (p := ⟨w.heap.size, 0, none⟩) (cell_lt k0)
  have d1 := B1.cell (p := ⟨w.heap.size, 1, none⟩) (cell_lt k1)
  have d2 := B1.cell (p := ⟨w.heap.size, 2, none⟩) (cell_lt k2)
  rw [k0] at d0
  rw [k1] at d1
  rw [k2] at d2
  clear k0 k1 k2 X0 B1 HS HT
  by_cases hv : ValidV xs ss off
  · have hA : Hid (offsA xs ss off = offsL xs ss off) := if_pos hv
    have HP := hide (l2Offsets_any HS1.out HT1.out off hv)
    rw [dcValidV_t hv]
    clear hv
    go_wp2_with (go_at_call 58; refine HP.out.mono ?_; intro e w2 hok; obtain ⟨sa2, cap2, rfl, hok2⟩ := hok)
    go_ret
    rw [hA.out]
    exact ListOk.from X1.out ⟨sa2, cap2, rfl, hok2⟩
  · have hA : Hid (offsA xs ss off = []) := if_neg hv
    rw [dcValidV_f hv]
    clear hv
    go_wp2
    go_ret
    exact list_nil hA.out _ _ (by first | exact X1.out | exact X1.out.alloc X1.out.size _)
end Go.Proofs.Ytiekkninnjffpaa
namespace Go.Proofs.Ytiekkninnjffpaa
open Go.ChangeShapes Go.RowKit
set_option linter.unusedSimpArgs false
set_option linter.unusedVariables false

theorem info4 : (Try.prog.info? 4).map (fun i => (i.zero, i.size, i.bytes)) = some (some (.bool false), 1, 1) := by kernel_rfl
theorem make_marks (W : World) : ∃ MC : Array Value, (∀ j, j < 4096 → MC[j]? = some (.bool false)) ∧ (Instr.makeSlice 72 (.int .i64 4096) (.int .i64 4096)).run Try.prog W = .ok (.slice (some ⟨W.heap.size, 0, none⟩) 4096 4096) (W.alloc (.cells MC 4)) := by
  refine ⟨madeCells #[.bool false] 4096, fun j hj => ?_, run_make_row' (P := Try.prog) 72 4 (.bool false) 1 Try.underlying72 info4 rfl .i64 .i64 4096 (by omega) (by omega) W⟩
  simp [madeCells, hj, Nat.mod_one]

theorem offs_len {xs ss : List Int} {off : Int} (hv : ValidV xs ss off) : (offsL xs ss off).length ≤ 4096 := by
  unfold offsL
  split
  · simp
  · rw [places_len xs ss off hv.2.1.symm]
    have h1 := prod_plen (fun m hm => (good_nonneg hv.1 m hm).1)
    have h2 := hv.1.2.2
    omega

/-- The world of the loop. -/
structure MR (w wr : World) (Bm : Nat) (sa : Option Addr) (L : List Int) (k : Nat) : Prop where
  nd : (L.take k).Nodup
  mrk : Mk wr Bm (L.take k)
  own : OwnI wr (Bm + 1) sa L
  bl : Below w.heap.size w wr
theorem MR.step {w wr : World} {Bm : Nat} {sa : Option Addr} {L : List Int} {k m : Nat} (h : MR w wr Bm sa L k) (hk : k < L.length) (hm : L.getD k 0 = (m : Int)) (hm4 : m < 4096) (hn : ¬ ((m : Int) ∈ L.take k)) (hw : w.heap.size ≤ Bm) : MR w (wr.setCell ⟨Bm, m, none⟩ (.bool true)) Bm sa L (k + 1) := by
  have e := take_snoc L k hk
  rw [hm] at e
  refine ⟨?_, ?_, ?_, h.bl.setCell (p := ⟨Bm, m, none⟩) hw _⟩
  · rw [e]
    refine List.nodup_append.2 ⟨h.nd, by simp, fun a ha b hb q => ?_⟩
    have : b = (m : Int) := by simpa using hb
    subst this
    subst q
    exact hn ha
  · rw [e]; exact h.mrk.mark m hm4
  · rcases h.own with h0 | ⟨g, h1, h2, h3, h4⟩
    · exact Or.inl h0
    · refine Or.inr ⟨g, h1, h2, fun j hj => ?_, fun o => (World.frozen?_setCell _ _ _ _).trans (h4 o)⟩
      exact (World.cell?_of_block (Below.heap_setCell _ _ _ g (by show g ≠ Bm; omega))).trans (h3 j hj)

set_option maxRecDepth 100000 in
set_option maxHeartbeats 2000000 in
theorem sWR_any {w : World} {vS vT : Value} {xs ss : List Int} (hS : Ints w vS xs) (hT : Ints w vT ss) (off : Int) (lx : xs.length ≤ 1048576) (ls : ss.length ≤ 1048576) :
    Calls Try.prog 26 #[.agg #[vS, vT, .int .i64 off]] w fun e w' => e = .returned (.bool (dcWrV xs ss off)) ∧ Bel w w' := by
  have x0 : Ext w (w.alloc (.cells #[vS, vT, .int .i64 off] 27)) := (Ext.refl w).alloc _ _
  have X0 := hide x0.bl
  have HS := hide (hS.ext x0)
  have HT := hide (hT.ext x0)
  have n1 := fun j => new_cell w #[vS, vT, .int .i64 off] 27 w.heap.size rfl j
  have k0 := n1 0
  have k1 := n1 1
  have k2 := n1 2
  clear n1 x0
  obtain ⟨sa, cap, rfl, _⟩ := hS
  obtain ⟨ta, dap, rfl, _⟩ := hT
  go_enter Try.func26, Try.ntmps26
  go_wp2_with fail
  generalize hW0 : w.alloc (.cells #[.slice sa xs.length cap, .slice ta ss.length dap, .int .i64 off] 27) = W0 at X0 HS HT k0 k1 k2 ⊢
  clear hW0
  refine (sVV_any HS.out HT.out off lx ls).mono ?_
  rintro e W1 ⟨rfl, B1⟩
  have X1 := hide (X0.out.trans (B1.mono X0.out.size))
  have HS1 := hide (HS.out.below B1)
  have HT1 := hide (HT.out.below B1)
  have d0 := Bel.box B1 k0
  have d1 := Bel.box B1 k1
  have d2 := Bel.box B1 k2
  clear k0 k1 k2 X0 B1 HS HT
  by_cases hv : ValidV xs ss off
  · rw [dcValidV_t hv]
    have hin := hide (offs_in hv)
    have Hv := hide hv
    obtain ⟨MC, hMC, hmk⟩ := make_marks W1
    have M2 : Hid (Mk (W1.alloc (.cells MC 4)) W1.heap.size []) := ⟨fun j hj => (new_cell W1 MC 4 _ rfl j).trans ((hMC j hj).trans (by simp)), fun j _ => frozen_nw W1 MC 4 _ j rfl⟩
    have x2 : Ext W1 (W1.alloc (.cells MC 4)) := (Ext.refl W1).alloc _ _
    have hlen := offs_len hv
    have HP := hide (l2Offsets_any (HS1.out.ext x2) (HT1.out.ext x2) off hv)
    have X2 := hide (X1.out.trans (x2.bl.mono X1.out.size))
    have q0 := x2.box d0
    have q1 := x2.box d1
    have q2 := x2.box d2
    have hs2 : Hid ((W1.alloc (.cells MC 4)).heap.size = W1.heap.size + 1) := by show _ = _; simp
    have hw1 := hide (X1.out.size)
    have hWr : Hid ((dcWrV xs ss off) = decide (offsL xs ss off).Nodup) := by
      show _ = _
      by_cases h : (offsL xs ss off).Nodup
      · rw [decide_eq_true h, dcWrV_t (show WrV xs ss off from ⟨hv, h⟩)]
      · rw [decide_eq_false h, dcWrV_f (fun q : WrV xs ss off => h q.2)]
    clear hv hMC x2 HS1 HT1 X1 Hv
    generalize offsL xs ss off = L at *
    go_wp2_with fail
    generalize hW2 : W1.alloc (.cells MC 4) = W2 at *
    clear hW2
    refine HP.out.mono ?_
    clear HP
    rintro e W3 ⟨s3, c3, rfl, own3, B3⟩
    have S0 : Hid (MR w W3 W1.heap.size s3 L 0) := ⟨by simp, ⟨fun j hj => by rw [Bel.box B3 (M2.out.at_ j hj)]; simp, fun j hj => (Below.frozen B3 (cell_lt (M2.out.at_ j hj))).trans (M2.out.fz j hj)⟩, by rw [← hs2.out]; exact own3, X2.out.trans (B3.mono X2.out.size)⟩
    clear hmk q0 q1 q2 d0 d1 d2 B3 own3 M2 X2 hs2
    generalize W1.heap.size = Bm at *
    go_wp2
    go_loopw [5] (fun i wr => ∃ k : Nat, i = .int .i64 k ∧ k ≤ L.length ∧ MR w wr Bm s3 L k) (fun i _ => L.length - (intOf i).toNat)
    case atStart => exact ⟨0, rfl, by omega, S0.out⟩
    case round =>
      obtain ⟨k, rfl, hk, hM⟩ := hrel
      have HM := hide hM
      clear S0
      by_cases hlt : k < L.length
      · rcases hM.own with h0 | ⟨g, rfl, hg, hrow, _⟩
        · rw [h0] at hlt; simp at hlt
        have hmem : L.getD k 0 ∈ L := by
          rw [List.getD_eq_getElem?_getD, List.getElem?_eq_getElem hlt]; exact List.getElem_mem _
        have hr4 := hin.out _ hmem
        have r0 := hrow k hlt
        rw [Nat.zero_add] at r0
        obtain ⟨m, hm⟩ : ∃ m : Nat, L.getD k 0 = (m : Int) := ⟨(L.getD k 0).toNat, by omega⟩
        rw [hm] at r0 hr4
        have hm4 : m < 4096 := by omega
        have r1 := hM.mrk.at_ m hm4
        have r2 := hM.mrk.fz m hm4
        have hk0 : (0 : Int) ≤ (k : Int) := Int.natCast_nonneg _
        have hk1 : (k : Int) < (L.length : Int) := by omega
        have Hm := hide hm
        clear hrow hmem hM hm
        by_cases hin2 : (m : Int) ∈ L.take k
        · have hno : Hid ((dcWrV xs ss off) = false) := hWr.out.trans (decide_eq_false (fun q => by
            have e := take_snoc L k hlt
            rw [Hm.out] at e
            have q2 := List.Sublist.nodup (List.take_sublist (k + 1) L) q
            rw [e] at q2
            exact (List.nodup_append.1 q2).2.2 _ hin2 _ (List.mem_singleton.2 rfl) rfl))
          rw [decide_eq_true hin2] at r1
          clear hin2
          go_wp2
          go_ret
          exact ⟨ret_bool hno.out.symm, HM.out.bl⟩
        · have hst := hide (HM.out.step hlt Hm.out hm4 hin2 hw1.out)
          rw [decide_eq_false hin2] at r1
          clear hin2
          go_wp2
          go_roundw
          · exact ⟨k + 1, by go_num, by omega, hst.out⟩
          · simp [intOf]; omega
      · have hkk : k = L.length := by omega
        have hyes : Hid ((dcWrV xs ss off) = true) := hWr.out.trans (decide_eq_true (by have := hM.nd; rw [hkk, List.take_length] at this; exact this))
        subst hkk
        clear hM
        go_wp2
        go_ret
        exact ⟨ret_bool hyes.out.symm, HM.out.bl⟩
  · have hno : Hid ((dcWrV xs ss off) = false) := decide_eq_false (fun q => hv q.1)
    rw [dcValidV_f hv]
    clear hv
    go_wp2
    go_ret
    exact ⟨ret_bool hno.out.symm, X1.out⟩
end Go.Proofs.Ytiekkninnjffpaa
namespace Go.Proofs.Ytiekkninnjffpaa
open Go.ChangeShapes Go.RowKit Go.Shelf
set_option linter.unusedSimpArgs false
set_option linter.unusedVariables false

attribute [local go_sem] Oper.semAt_some

theorem make_cap (W : World) (P : Int) (h0 : 0 ≤ P) (h1 : P ≤ 4096) : (Instr.makeSlice 22 (.int .i64 0) (.int .i64 P)).run Try.prog W = .ok (.slice (some ⟨W.heap.size, 0, none⟩) 0 P.toNat) (W.alloc (.cells (madeCells #[.int .i64 0] P.toNat) 2)) := by
  obtain ⟨i0, hi0, hz0, hz1, hz2⟩ := info_parts info2
  have h := run_make (P := Try.prog) W 22 2 i0 (.int .i64 0) Try.underlying22 hi0 hz0 .i64 .i64 0 P (by omega) (by omega) (by rw [hz2]; omega) (by omega)
  rw [hz1, Nat.mul_one] at h
  exact h

theorem KC.grown {b g : Nat} {A B : World} (hg : A.grownBy B (some g)) (h : g < b) : KC b A B :=
  ⟨hg.size, fun k o hk ho _ => (hg.block k (Array.getElem?_eq_some_iff.1 ho).1 (fun e => by cases e; omega)).trans ho⟩
theorem offs_cap {xs ss : List Int} {off : Int} (hv : ValidV xs ss off) : (offsL xs ss off).length ≤ (prod xs).toNat := by
  unfold offsL
  split
  · simp
  · rw [places_len xs ss off hv.2.1.symm]
    have h1 := prod_plen (fun m hm => (good_nonneg hv.1 m hm).1)
    omega

/-- The world where the loop begins. -/
structure OSt (w W0 : World) (b P : Nat) : Prop where
  size : W0.heap.size = b + 5
  box : Boxed W0 (b + 1 + 1 + 1) 22 (.slice (some ⟨b + 1 + 1, 0, none⟩) 0 P)
  row : W0.ownsRow w.heap.size 2 1 (.slice (some ⟨b + 1 + 1, 0, none⟩) 0 P) 0 []
  bl : Below w.heap.size w W0
theorem OSt.start {w w2 : World} {b P : Nat} (hs : w2.heap.size = b + 1 + 1) (hb : Below w.heap.size w w2) (hP : P ≤ 4096) (MC V : Array Value) (hM : MC.size = P) :
    OSt w (((w2.alloc (.cells MC 2)).alloc (.cells #[.slice (some ⟨b + 1 + 1, 0, none⟩) 0 P] 22)).alloc (.cells V 64)) b P := by
  have hw := hb.size
  refine ⟨by simp; omega, ?_, ?_, ((hb.alloc hw _).alloc (by simp; omega) _).alloc (by simp; omega) _⟩
  · have h := (Boxed.new (w2.alloc (.cells MC 2)) 22 (.slice (some ⟨b + 1 + 1, 0, none⟩) 0 P)).alloc (.cells V 64)
    rw [World.size_alloc, hs] at h
    exact h
  · refine World.ownsRow.alloc (World.ownsRow.alloc ?_ _) _
    have h := World.alloc_heap_new w2 (.cells MC 2)
    rw [hs] at h
    exact ⟨by simp, .inr ⟨b + 1 + 1, P, MC, rfl, by omega, h, by omega, by unfold maxLen; omega, by omega, by simp⟩⟩

set_option maxRecDepth 100000 in
set_option maxHeartbeats 2000000 in
theorem iOF_in {w : World} {vS vT : Value} {xs ss : List Int} (hS : Ints w vS xs) (hT : Ints w vT ss) (off : Int) (lx : xs.length ≤ 1048576) (ls : ss.length ≤ 1048576) (n : Nat) (hn : 3 ≤ n) :
    CallsIn Fence.wide n Try.prog 31 #[.agg #[vS, vT, .int .i64 off]] w fun e w' => ListOk w (offsA xs ss off) e w' := by
  have x0 : Ext w (w.alloc (.cells #[vS, vT, .int .i64 off] 27)) := (Ext.refl w).alloc _ _
  have X0 := hide x0
  have HS := hide (hS.ext x0)
  have HT := hide (hT.ext x0)
  obtain ⟨sa, cap, rfl, _⟩ := hS
  obtain ⟨ta, dap, rfl, _⟩ := hT
  clear x0
  have hdd : ∀ k : Nat, (Fence.wide.depth.isSome = true → 1 ≤ k) := fun k h => by cases h
  refine callsIn_of_wp_marks Try.func31 rfl trivial ?_ rfl
  simp only [Try.ntmps31, List.size_toArray, List.length_cons, List.length_nil, Nat.reduceAdd, Nat.reduceSub, Array.replicate_succ, Array.replicate_zero, List.push_toArray, List.append_toArray, List.nil_append, List.cons_append]
  gi_wp2
  refine ⟨trivial, hdd _, ?_⟩
  refine (callsIn_wide.2 (fixView_any HS.out HT.out off lx ls)).mono ?_
  rintro e w1 ⟨A, rfl, hA, hex, x1⟩
  have X1 := hide (X0.out.trans x1)
  clear x1
  by_cases hv : ValidV xs ss off
  · have hA1 := hA hv
    subst hA1
    clear hA hex HS HT X0
    rw [dcValidV_t hv]
    have hl4 := hv.1.1
    have hpb : 0 ≤ prod xs ∧ prod xs ≤ 4096 := ⟨by have := prod_plen (fun m hm => (good_nonneg hv.1 m hm).1); omega, hv.1.2.2⟩
    have hcnt := hide (fun W => count_any W xs hv.1.1 hv.1.2.1)
    have hpl := hide (fun n W => placesF_in n xs ss off W)
    have hst := hide (fun n Bf W hB => placesK n Bf xs ss off hv.1.1 hv.2.1 hv.1.2.1 hv.1.2.2 hv.2.2.2.1 hv.2.2.1 (offs_in hv) W hB)
    have hOP := offs_cap hv
    have hAL : Hid (offsA xs ss off = offsL xs ss off) := if_pos hv
    clear hv
    have hmk := fun W => make_cap W (prod xs) hpb.1 hpb.2
    unfold vw at hpl hst ⊢
    unfold shp at hcnt
    generalize hOL : offsL xs ss off = OL at hst hOP
    have HOL := hide hOL
    clear hOL
    generalize xs.getD 0 0 = a0 at *
    generalize xs.getD 1 0 = a1 at *
    generalize xs.getD 2 0 = a2 at *
    generalize xs.getD 3 0 = a3 at *
    generalize ss.getD 0 0 = s0 at *
    generalize ss.getD 1 0 = s1 at *
    generalize ss.getD 2 0 = s2 at *
    generalize ss.getD 3 0 = s3 at *
    generalize hP : prod xs = P at *
    have HP := hide hP
    clear hP
    gi_wp2
    refine ⟨trivial, hdd _, ?_⟩
    refine (callsIn_wide.2 (hcnt.out _)).mono ?_
    rintro e w2 ⟨rfl, hw2⟩
    have hmk2 := hmk w2
    have hs2 : w2.heap.size = w1.heap.size + 1 + 1 := by rw [hw2]; simp
    have kk : ∀ j, j < 10 → w2.cell? ⟨w1.heap.size, j, none⟩ = (#[.int .i64 xs.length, .int .i64 a0, .int .i64 a1, .int .i64 a2, .int .i64 a3, .int .i64 s0, .int .i64 s1, .int .i64 s2, .int .i64 s3, .int .i64 off] : Array Value)[j]? := fun j hj => by
      rw [hw2]
      rw [show (World.alloc (w1.alloc _) _).cell? ⟨w1.heap.size, j, none⟩ = _ from ((Below.refl _ (w1.alloc _)).alloc (Nat.le_refl _) _).cell (p := ⟨w1.heap.size, j, none⟩) (by show w1.heap.size < _; simp)]
      exact new_cell w1 _ 64 _ rfl j
    have k0 : w2.cell? ⟨w1.heap.size, 0, none⟩ = some (.int .i64 xs.length) := kk 0 (by omega)
    have k1 : w2.cell? ⟨w1.heap.size, 1, none⟩ = some (.int .i64 a0) := kk 1 (by omega)
    have k2 : w2.cell? ⟨w1.heap.size, 2, none⟩ = some (.int .i64 a1) := kk 2 (by omega)
    have k3 : w2.cell? ⟨w1.heap.size, 3, none⟩ = some (.int .i64 a2) := kk 3 (by omega)
    have k4 : w2.cell? ⟨w1.heap.size, 4, none⟩ = some (.int .i64 a3) := kk 4 (by omega)
    have k5 : w2.cell? ⟨w1.heap.size, 5, none⟩ = some (.int .i64 s0) := kk 5 (by omega)
    have k6 : w2.cell? ⟨w1.heap.size, 6, none⟩ = some (.int .i64 s1) := kk 6 (by omega)
    have k7 : w2.cell? ⟨w1.heap.size, 7, none⟩ = some (.int .i64 s2) := kk 7 (by omega)
    have k8 : w2.cell? ⟨w1.heap.size, 8, none⟩ = some (.int .i64 s3) := kk 8 (by omega)
    have k9 : w2.cell? ⟨w1.heap.size, 9, none⟩ = some (.int .i64 off) := kk 9 (by omega)
    have X2 : Hid (Below w.heap.size w w2) := by rw [hw2]; exact ((X1.out.alloc _ _).alloc _ _).bl
    have O0 := hide (OSt.start hs2 X2.out (show P.toNat ≤ 4096 by omega) (madeCells #[Value.int .i64 0] P.toNat) #[.int .i64 xs.length, .int .i64 a0, .int .i64 a1, .int .i64 a2, .int .i64 a3, .int .i64 s0, .int .i64 s1, .int .i64 s2, .int .i64 s3, .int .i64 off] (size_madeCells _ _))
    have hst2 := hide (hst.out (n - 1) (w1.heap.size + 1 + 1 + 1 + 1) ((w2.alloc (.cells (madeCells #[Value.int .i64 0] P.toNat) 2)).alloc (.cells #[.slice (some ⟨w1.heap.size + 1 + 1, 0, none⟩) 0 P.toNat] 22)) (by simp; omega))
    have hww := hide X2.out.size
    clear kk hw2 hmk hcnt X1 hst
    have hlt1 : w1.heap.size < w2.heap.size := by omega
    generalize hMC : madeCells #[Value.int .i64 0] P.toNat = MC at *
    have l0 := cell_al (.cells #[.slice (some ⟨w2.heap.size, 0, none⟩) 0 P.toNat] 22) (cell_al (.cells MC 2) k0)
    have l1 := cell_al (.cells #[.slice (some ⟨w2.heap.size, 0, none⟩) 0 P.toNat] 22) (cell_al (.cells MC 2) k1)
    have l2 := cell_al (.cells #[.slice (some ⟨w2.heap.size, 0, none⟩) 0 P.toNat] 22) (cell_al (.cells MC 2) k2)
    have l3 := cell_al (.cells #[.slice (some ⟨w2.heap.size, 0, none⟩) 0 P.toNat] 22) (cell_al (.cells MC 2) k3)
    have l4 := cell_al (.cells #[.slice (some ⟨w2.heap.size, 0, none⟩) 0 P.toNat] 22) (cell_al (.cells MC 2) k4)
    have l5 := cell_al (.cells #[.slice (some ⟨w2.heap.size, 0, none⟩) 0 P.toNat] 22) (cell_al (.cells MC 2) k5)
    have l6 := cell_al (.cells #[.slice (some ⟨w2.heap.size, 0, none⟩) 0 P.toNat] 22) (cell_al (.cells MC 2) k6)
    have l7 := cell_al (.cells #[.slice (some ⟨w2.heap.size, 0, none⟩) 0 P.toNat] 22) (cell_al (.cells MC 2) k7)
    have l8 := cell_al (.cells #[.slice (some ⟨w2.heap.size, 0, none⟩) 0 P.toNat] 22) (cell_al (.cells MC 2) k8)
    have l9 := cell_al (.cells #[.slice (some ⟨w2.heap.size, 0, none⟩) 0 P.toNat] 22) (cell_al (.cells MC 2) k9)
    gi_wp2
    refine ⟨trivial, hdd _, ?_⟩
    refine (hpl.out _ _).mono ?_
    rintro e w' ⟨rfl, rfl⟩
    clear hpl l0 l1 l2 l3 l4 l5 l6 l7 l8 l9 k0 k1 k2 k3 k4 k5 k6 k7 k8 k9 hmk2
    have h1 : 1 ≤ n := by omega
    gi_wp2
    generalize hW0 : World.alloc ((w2.alloc _).alloc _) _ = W0 at O0 hst2 ⊢
    clear hW0
    have hsz := O0.out.size
    have hw2' := hww.out
    obtain ⟨i0, hi0, hz0, hz1, hz2⟩ := info_parts info2
    refine wpIn_rangeFunc_ownF rfl h1 (gf := 82) (lb := #[.pointer (some ⟨w1.heap.size + 1 + 1 + 1 + 1, 0, none⟩)]) rfl trivial (enters_of Try.func82 (by kernel_rfl) rfl)
      hst2.out (fun h k => KC.trans h k) (fun W l o o' h1 h2 h3 h4 => kc_put W l o o' h1 h2 h3 h4) (Below.refl _ _) (fun _ => rfl)
      (fun pre W => (∃ v, Boxed W (w1.heap.size + 1 + 1 + 1) 22 v ∧ W.ownsRow w.heap.size 2 1 v pre.length ((plv pre).map (Value.int .i64)) ∧ v = .slice (some ⟨w1.heap.size + 1 + 1, 0, none⟩) pre.length P.toNat) ∧ Below w.heap.size w W)
      (fun _ _ _ => False)
      (OwnFrom.and (Own.from (holdsRow_own w.heap.size (w1.heap.size + 1 + 1 + 1) 22 2 1 (fun pre : List Pl => pre.length) (fun pre => (plv pre).map (Value.int .i64)) (fun pre v => v = .slice (some ⟨w1.heap.size + 1 + 1, 0, none⟩) pre.length P.toNat)) _) (ownFrom_below (Nat.le_refl _) (by omega)))
      (fun _ _ _ _ _ hs _ _ => hs)
      ⟨⟨_, O0.out.box, O0.out.row, rfl⟩, O0.out.bl⟩
      (fun x => { tmps := #[.agg #[.slice sa xs.length cap, .slice ta ss.length dap, .int .i64 off], .pointer (some ⟨w.heap.size, 0, none⟩), .slice none 0 0, .pointer (some ⟨w1.heap.size, 0, none⟩), .bool true, .pointer (some ⟨w1.heap.size + 1 + 1 + 1, 0, none⟩), .int .i64 x.1, .tuple #[.agg #[.int .i64 xs.length, .int .i64 a0, .int .i64 a1, .int .i64 a2, .int .i64 a3, .int .i64 s0, .int .i64 s1, .int .i64 s2, .int .i64 s3, .int .i64 off], .bool true], .agg #[.slice sa xs.length cap, .slice ta ss.length dap, .int .i64 off], .tuple #[.agg #[.int .i64 xs.length, .int .i64 a0, .int .i64 a1, .int .i64 a2, .int .i64 a3, .int .i64 s0, .int .i64 s1, .int .i64 s2, .int .i64 s3, .int .i64 off], .bool true], .agg #[.int .i64 xs.length, .int .i64 a0, .int .i64 a1, .int .i64 a2, .int .i64 a3, .int .i64 s0, .int .i64 s1, .int .i64 s2, .int .i64 s3, .int .i64 off], .bool true, .bool true, .bool false, undef, .pointer (some ⟨w1.heap.size, 0, none⟩), .agg #[.int .i64 xs.length, .int .i64 a0, .int .i64 a1, .int .i64 a2, .int .i64 a3], .int .i64 P, .slice (some ⟨w1.heap.size + 1 + 1, 0, none⟩) 0 P.toNat, .agg #[.int .i64 xs.length, .int .i64 a0, .int .i64 a1, .int .i64 a2, .int .i64 a3, .int .i64 s0, .int .i64 s1, .int .i64 s2, .int .i64 s3, .int .i64 off], .func (.func 82) #[] #[.pointer (some ⟨w1.heap.size + 1 + 1 + 1 + 1, 0, none⟩)], .int .i64 x.1, undef, undef, undef, undef, undef], defers := [] }) ?assign ?body ?done ?stop
    case assign =>
      intro l x W K hK
      gi_wp2
      exact hK
    case body =>
      rintro l pre ⟨x, hx⟩ W ⟨⟨v, hbox, hrow, rfl⟩, hB⟩ hlen
      have hc0 := hbox.cell
      have hWs := hbox.lt
      gi_wp2_with (gi_at_builtin; refine wpListIn_append_fits _ rfl _ _ 22 rfl w.heap.size 2 i0 1 Try.underlying22 hi0 hz1 (w1.heap.size + 1 + 1) pre.length P.toNat _ rfl (hrow.alloc _) ⟨W.heap.size, 0, none⟩ 1 1 [.int .i64 x] rfl rfl (cell_one_new _ _ _) (by simp [Value.oneCell']) (by omega) ?_; intro w3 hown' hgrow; obtain ⟨hv1, hv2, hr2, hk2, hb2⟩ := hbox.appended (by decide) hrow hB.size (by omega) hown' hgrow; have hc1 := hv1.cell; have hf1 := hv1.frozen)
      refine ⟨hk2, ((KC.alloc _ W _).trans (KC.grown hgrow (by omega))).trans (KC.setCell w3 (p := ⟨w1.heap.size + 1 + 1 + 1, 0, none⟩) (by show w1.heap.size + 1 + 1 + 1 < _; omega) _), ⟨_, hv2, ?_, ?_⟩, hB.trans hb2⟩
      · simpa [plv] using hr2
      · simp
    case done =>
      rintro D ys W hD hS ⟨⟨v, hbox, hrow, rfl⟩, hB⟩ hK
      have hc0 := hbox.cell
      gi_wp2
      refine ⟨by simp, .inl ⟨_, _, rfl, run_takeDeferred hK, ?_⟩⟩
      refine ⟨_, results_tmp rfl _ _ _, ?_⟩
      have hrow2 := hrow.kept (grownBy_putObj' W D (.deferred none)) (.inr (fun e => by
        have : w1.heap.size + 1 + 1 = D := by simpa [Value.ownBlock] using e
        omega))
      obtain ⟨sa3, cap3, e3, o3⟩ := own_of (w := w) (Nat.le_refl _) hrow2
      rw [hAL.out, HOL.out, ← hS]
      refine ⟨sa3, cap3, ?_, o3, hB.trans (belowK_b (w := w) (Nat.le_refl _) W D _ _ (by omega) hK rfl rfl)⟩
      rw [← e3]
      rfl
    case stop =>
      rintro D c pre W _ _ h _
      exact h.elim
  · have hno : Hid (offsA xs ss off = []) := if_neg hv
    rw [dcValidV_f hv]
    obtain ⟨a0, a1, a2, a3, a4, a5, a6, a7, a8, a9, rfl⟩ := hex
    clear hA hv HS HT X0
    gi_wp2
    refine ⟨_, results_tmp rfl _ _ _, ?_⟩
    exact list_nil hno.out _ _ ((X1.out.alloc _ _).alloc _ _).bl
end Go.Proofs.Ytiekkninnjffpaa
namespace Go.Proofs.Ytiekkninnjffpaa
open Go.ChangeShapes Go.RowKit
set_option linter.unusedSimpArgs false
set_option linter.unusedVariables false

theorem iOF_any {w : World} {vS vT : Value} {xs ss : List Int} (hS : Ints w vS xs) (hT : Ints w vT ss) (off : Int) (lx : xs.length ≤ 1048576) (ls : ss.length ≤ 1048576) :
    Calls Try.prog 31 #[.agg #[vS, vT, .int .i64 off]] w fun e w' => ListOk w (offsA xs ss off) e w' :=
  callsIn_wide.1 (iOF_in hS hT off lx ls 3 (Nat.le_refl _))
theorem offsA_len (xs ss : List Int) (off : Int) : (offsA xs ss off).length ≤ 4096 := by
  unfold offsA
  split
  · next h => exact offs_len h
  · simp
theorem ownFZ {w : World} {lo cap : Nat} {sa : Option Addr} {L : List Int} (h : OwnI w lo sa L) : FZ w (.slice sa L.length cap) L := by
  by_cases e : L = []
  · exact Or.inl e
  rcases h with h | ⟨g, h1, h2, h3, h4⟩
  · exact absurd h e
  · have hl : 0 < L.length := List.length_pos_iff.2 e
    exact Or.inr ⟨g, 0, _, cap, by rw [h1], cell_lt (h3 0 hl), h4⟩

set_option maxRecDepth 100000 in
set_option maxHeartbeats 8000000 in
theorem lawOF (w : World) (vS vT : Value) (off : Int) (xs ss : List Int) (hS : Ints w vS xs) (hT : Ints w vT ss) (lx : xs.length ≤ 9223372036854775807) (ls : ss.length ≤ 9223372036854775807) :
    Calls Try.prog 7 #[.agg #[vS, vT, .int .i64 off]] w fun e w' => LawOk w e w' := by
  have hL4 := offsA_len xs ss off
  have hsp := hide (fun (W : World) (vS vT : Value) (h1 : Ints W vS xs) (h2 : Ints W vT ss) (lx : xs.length ≤ 1048576) (ls : ss.length ≤ 1048576) => sOF_any h1 h2 off lx ls)
  have him := hide (fun (W : World) (vS vT : Value) (h1 : Ints W vS xs) (h2 : Ints W vT ss) (lx : xs.length ≤ 1048576) (ls : ss.length ≤ 1048576) => iOF_any h1 h2 off lx ls)
  generalize offsA xs ss off = L at hL4 hsp him
  have B0 := hide (LB.start (off := off) (vP := .slice none 0 0) (ys := []) hS hT ⟨none, 0, rfl, Or.inl rfl⟩)
  obtain ⟨sa, cap, rfl, _⟩ := hS
  obtain ⟨ta, dap, rfl, _⟩ := hT
  by_cases hsz : szL xs.length ss.length < 0
  · go_enter Try.func7, Try.ntmps7
    go_wp2_with fail
    refine (szView_any sa ta xs.length cap ss.length dap off lx ls _).mono ?_
    rintro e w1 ⟨rfl, x1⟩
    have B1 := hide (B0.out.keep x1.bl)
    clear x1
    generalize szL xs.length ss.length = z at hsz ⊢
    go_wp2
    go_ret
    exact ⟨rfl, B1.out.z⟩
  have hle : xs.length ≤ 1048576 ∧ ss.length ≤ 1048576 := by
    unfold szL at hsz
    split at hsz
    · omega
    · split at hsz <;> omega
  have hlx := hle.1
  have hls := hle.2
  clear hle
  go_enter Try.func7, Try.ntmps7
  go_wp2_with fail
  refine (szView_any sa ta xs.length cap ss.length dap off lx ls _).mono ?_
  rintro e w1 ⟨rfl, x1⟩
  have B1 := hide (B0.out.keep x1.bl)
  clear x1 B0 lx ls
  generalize szL xs.length ss.length = z at hsz ⊢
  have a0 := B1.out.a0
  have a1 := B1.out.a1
  have a2 := B1.out.a2
  go_wp2_with fail
  refine (toView_any B1.out.hS.ints B1.out.hT.ints off hlx hls).mono ?_
  rintro e w2 ⟨b2, k2, rfl, _, _, _, rb, rk, x2⟩
  have B2 := hide (B1.out.keep x2.bl)
  have Rb := hide (rb.ints (n := xs.length) (cap := xs.length) rfl)
  have Rk := hide (rk.ints (n := ss.length) (cap := ss.length) rfl)
  clear rb rk x2 a0 a1 a2 B1
  go_wp2_with fail
  refine (hsp.out _ _ _ Rb.out Rk.out hlx hls).mono ?_
  rintro e w4 ⟨sw, cw, rfl, iW, x4⟩
  have B4 := hide (B2.out.keep x4)
  have W4' := hide (ownB (cap := cw) iW)
  have sz4 : Hid (w.heap.size < w4.heap.size) := Nat.lt_of_lt_of_le (cell_lt B2.out.a0) (Below.size x4)
  clear iW x4 Rb Rk B2 hsp
  have a0 := B4.out.a0
  have a1 := B4.out.a1
  have a2 := B4.out.a2
  go_wp2_with fail
  refine (toView_any B4.out.hS.ints B4.out.hT.ints off hlx hls).mono ?_
  rintro e w5 ⟨b, k, rfl, hb1, hb2, hb3, rb, rk, x5⟩
  have y5 : Bel w5 (w5.alloc (.cells #[.slice (some ⟨b, 0, none⟩) xs.length xs.length, .slice (some ⟨k, 0, none⟩) ss.length ss.length, .int .i64 off] 27)) := ((Ext.refl w5).alloc _ _).bl
  have B5 := hide ((B4.out.keep x5.bl).keep y5)
  have W5' := hide ((W4'.out.keep x5.bl).keep y5)
  have X5 := hide (LX.start (off := off) x5 hb1 hb2 hb3 rb rk)
  have sz5 : Hid (w4.heap.size ≤ b ∧ b < k ∧ k < w5.heap.size ∧ (w5.alloc (.cells #[.slice (some ⟨b, 0, none⟩) xs.length xs.length, .slice (some ⟨k, 0, none⟩) ss.length ss.length, .int .i64 off] 27)).heap.size = w5.heap.size + 1) := ⟨hb1, hb2, hb3, by simp⟩
  clear hb1 hb2 hb3 rb rk x5 y5 a0 a1 a2 B4 W4'
  have q0 := X5.out.c0
  have q1 := X5.out.c1
  have q2 := X5.out.c2
  go_wp2_with fail
  generalize hW5 : w5.alloc (.cells #[.slice (some ⟨b, 0, none⟩) xs.length xs.length, .slice (some ⟨k, 0, none⟩) ss.length ss.length, .int .i64 off] 27) = V5 at B5 W5' X5 sz5 q0 q1 q2 ⊢
  clear hW5
  refine (him.out _ _ _ X5.out.hL.ints X5.out.hS.ints hlx hls).mono ?_
  rintro e w7 ⟨sg, cg, rfl, iG, x7⟩
  have B7 := hide (B5.out.keep x7)
  have W7' := hide (W5'.out.keep x7)
  have X7 := hide (X5.out.keep x7)
  have G7 := hide (ownB (cap := cg) iG)
  have F7 := hide (ownFZ (cap := cg) iG)
  have SZ : Hid (w.heap.size < b ∧ w4.heap.size ≤ b ∧ b < k ∧ k + 1 < V5.heap.size ∧ V5.heap.size ≤ w7.heap.size) := by
    have := sz4.out; have := sz5.out; have := Below.size x7
    exact ⟨by omega, by omega, by omega, by omega, by omega⟩
  clear iG x7 sz4 sz5 q0 q1 q2 B5 W5' X5
  go_wp2_with fail
  refine (eqInts_any G7.out.ints W7'.out.ints (by omega)).mono ?_
  rintro e w8 ⟨rfl, x8⟩
  rw [show decide (L = L) = true from by simp]
  have D8 : Bel w8 w8.drew := bel_drew w8
  have B8 := hide (B7.out.keep x8.bl)
  have W8' := hide (W7'.out.keep x8.bl)
  have X8 := hide (X7.out.keep x8.bl)
  have G8 := hide (G7.out.keep x8.bl)
  have F8 := hide (F7.out.keep x8.bl)
  have T8 := hide (Below.size x8.bl)
  clear x8 B7 W7' X7 G7 F7
  have ba0 := B8.out.a0
  have ba1 := B8.out.a1
  have ba2 := B8.out.a2
  have xc0 := X8.out.c0
  have xc1 := X8.out.c1
  have xc2 := X8.out.c2
  have B9 := hide (B8.out.keep D8)
  have W9' := hide (W8'.out.keep D8)
  have X9 := hide (X8.out.keep D8)
  have G9 := hide (G8.out.keep D8)
  have F9 := hide (F8.out.keep D8)
  have T9 : Hid (w7.heap.size ≤ w8.drew.heap.size) := T8.out
  have SA : Hid ((fun w' => w'.cell? ⟨w5.heap.size, 0, none⟩ = some (.slice (some ⟨b, 0, none⟩) xs.length xs.length) ∧ w'.cell? ⟨w5.heap.size, 1, none⟩ = some (.slice (some ⟨k, 0, none⟩) ss.length ss.length) ∧ w'.cell? ⟨w5.heap.size, 2, none⟩ = some (.int .i64 off) ∧ w'.cell? ⟨w.heap.size, 0, none⟩ = some (.slice sa xs.length cap) ∧ w'.cell? ⟨w.heap.size, 1, none⟩ = some (.slice ta ss.length dap) ∧ w'.cell? ⟨w.heap.size, 2, none⟩ = some (.int .i64 off)) w8.drew) := ⟨X9.out.c0, X9.out.c1, X9.out.c2, B9.out.a0, B9.out.a1, B9.out.a2⟩
  clear D8
  go_wp2_with fail
  go_region_held3 (fun w' => w'.cell? ⟨w5.heap.size, 0, none⟩ = some (.slice (some ⟨b, 0, none⟩) xs.length xs.length) ∧ w'.cell? ⟨w5.heap.size, 1, none⟩ = some (.slice (some ⟨k, 0, none⟩) ss.length ss.length) ∧ w'.cell? ⟨w5.heap.size, 2, none⟩ = some (.int .i64 off) ∧ w'.cell? ⟨w.heap.size, 0, none⟩ = some (.slice sa xs.length cap) ∧ w'.cell? ⟨w.heap.size, 1, none⟩ = some (.slice ta ss.length dap) ∧ w'.cell? ⟨w.heap.size, 2, none⟩ = some (.int .i64 off)) (first | with_reducible exact SA.out | with_reducible exact SB'.out | with_reducible exact SC'.out | fail) (first | (go_at_call 15; refine (toView_any B9.out.hS.ints B9.out.hT.ints off hlx hls).mono ?_; rintro e w10 ⟨b10, k10, rfl, _, _, _, rb, rk, x10⟩; have A10 := hide (rb.ints (n := xs.length) (cap := xs.length) rfl); have C10 := hide (rk.ints (n := ss.length) (cap := ss.length) rfl); have B10 := hide (B9.out.keep x10.bl); have W10' := hide (W9'.out.keep x10.bl); have X10 := hide (X9.out.keep x10.bl); have G10 := hide (G9.out.keep x10.bl); have F10 := hide (F9.out.keep x10.bl); have T10 := hide (Nat.le_trans T9.out (Below.size x10.bl)); have SB' : Hid ((fun w' => w'.cell? ⟨w5.heap.size, 0, none⟩ = some (.slice (some ⟨b, 0, none⟩) xs.length xs.length) ∧ w'.cell? ⟨w5.heap.size, 1, none⟩ = some (.slice (some ⟨k, 0, none⟩) ss.length ss.length) ∧ w'.cell? ⟨w5.heap.size, 2, none⟩ = some (.int .i64 off) ∧ w'.cell? ⟨w.heap.size, 0, none⟩ = some (.slice sa xs.length cap) ∧ w'.cell? ⟨w.heap.size, 1, none⟩ = some (.slice ta ss.length dap) ∧ w'.cell? ⟨w.heap.size, 2, none⟩ = some (.int .i64 off)) w10) := ⟨X10.out.c0, X10.out.c1, X10.out.c2, B10.out.a0, B10.out.a1, B10.out.a2⟩; clear rb rk x10) | (go_at_call 17; refine (eqView_true off X10.out.hL.ints X10.out.hS.ints A10.out C10.out hlx hls).mono ?_; rintro e w11 ⟨rfl, x11⟩; have B11 := hide (B10.out.keep x11.bl); have W11' := hide (W10'.out.keep x11.bl); have X11 := hide (X10.out.keep x11.bl); have G11 := hide (G10.out.keep x11.bl); have F11 := hide (F10.out.keep x11.bl); have T11 := hide (Nat.le_trans T10.out (Below.size x11.bl)); have SC' : Hid ((fun w' => w'.cell? ⟨w5.heap.size, 0, none⟩ = some (.slice (some ⟨b, 0, none⟩) xs.length xs.length) ∧ w'.cell? ⟨w5.heap.size, 1, none⟩ = some (.slice (some ⟨k, 0, none⟩) ss.length ss.length) ∧ w'.cell? ⟨w5.heap.size, 2, none⟩ = some (.int .i64 off) ∧ w'.cell? ⟨w.heap.size, 0, none⟩ = some (.slice sa xs.length cap) ∧ w'.cell? ⟨w.heap.size, 1, none⟩ = some (.slice ta ss.length dap) ∧ w'.cell? ⟨w.heap.size, 2, none⟩ = some (.int .i64 off)) w11) := ⟨X11.out.c0, X11.out.c1, X11.out.c2, B11.out.a0, B11.out.a1, B11.out.a2⟩; clear x11) | fail)
  clear SA SB' SC' A10 C10 B8 W8' X8 G8 F8 T8 B9 W9' X9 G9 F9 T9 B10 W10' X10 G10 F10 T10 ba0 ba1 ba2 xc0 xc1 xc2
  have xc0 := X11.out.c0
  have xc1 := X11.out.c1
  have xc2 := X11.out.c2
  go_wp2_with fail
  refine (markView_any (lo := b) (hi := k + 1) X11.out.hL X11.out.hS X11.out.fL X11.out.fS (by have := SZ.out; omega) (by have := SZ.out; omega) (by have := SZ.out; omega) (by have := SZ.out; have := T11.out; omega) (by have := SZ.out; have := T11.out; omega) 1 (by omega) hlx hls).mono ?_
  rintro e w14 ⟨rfl, _, _, m14⟩
  have B14 := hide (B11.out.mIn m14 (by have := SZ.out; omega))
  have W14' := hide (W11'.out.mIn m14 (by have := SZ.out; omega))
  have G14 := hide (G11.out.mIn m14 (by have := SZ.out; omega))
  have F14 := hide (F11.out.mIn m14)
  have T14 := hide (Nat.le_trans T11.out (Below.size m14.bl))
  clear m14 xc0 xc1 xc2 B11 W11' X11 G11 F11 T11
  have hk : ¬ (1 + (xs.length : Int) + (ss.length : Int)) < 0 := by omega
  go_wp2_with fail
  refine (eqInts_any G14.out.ints W14'.out.ints (by omega)).mono ?_
  rintro e w16 ⟨rfl, x16⟩
  rw [show decide (L = L) = true from by simp]
  have B16 := hide (B14.out.keep x16.bl)
  have W16' := hide (W14'.out.keep x16.bl)
  have G16 := hide (G14.out.keep x16.bl)
  have F16 := hide (F14.out.keep x16.bl)
  have T16 := hide (Nat.le_trans T14.out (Below.size x16.bl))
  clear x16 B14 W14' G14 F14 T14
  go_wp2_with fail
  refine (markB2 G16.out F16.out (by have := SZ.out; have := T16.out; omega) 1 (by omega) (by omega)).mono ?_
  rintro e w17 ⟨rfl, i17, m17⟩
  have B17 := hide (B16.out.mIn m17 (by have := SZ.out; omega))
  have W17' := hide (W16'.out.mIn m17 (by have := SZ.out; omega))
  have I17 := hide i17
  clear i17 m17 B16 W16' G16 F16 T16
  go_wp2_with fail
  refine (heldInts_any 1 I17.out.ints (by omega) (by omega)).mono ?_
  rintro e w18 ⟨rfl, rfl⟩
  clear I17
  have hq : ¬ (1 + (L.length : Int)) < 0 := by omega
  have ba0 := B17.out.a0
  have ba1 := B17.out.a1
  have ba2 := B17.out.a2
  go_wp2_with fail
  refine (toView_any B17.out.hS.ints B17.out.hT.ints off hlx hls).mono ?_
  rintro e w19 ⟨b19, k19, rfl, _, _, _, rb, rk, x19⟩
  have B19 := hide (B17.out.keep x19.bl)
  have W19' := hide (W17'.out.keep x19.bl)
  have Rb := hide (rb.ints (n := xs.length) (cap := xs.length) rfl)
  have Rk := hide (rk.ints (n := ss.length) (cap := ss.length) rfl)
  clear rb rk x19 ba0 ba1 ba2 B17 W17'
  go_wp2_with fail
  refine (him.out _ _ _ Rb.out Rk.out hlx hls).mono ?_
  rintro e w21 ⟨sg2, cg2, rfl, iG, x21⟩
  have B21 := hide (B19.out.keep x21)
  have W21' := hide (W19'.out.keep x21)
  have G21 := hide (ownB (cap := cg2) iG)
  clear iG x21 B19 W19' Rb Rk
  go_wp2_with fail
  refine (eqInts_any G21.out.ints W21'.out.ints (by omega)).mono ?_
  rintro e w22 ⟨rfl, x22⟩
  rw [show decide (L = L) = true from by simp]
  have B22 := hide (B21.out.keep x22.bl)
  clear x22 B21 W21' G21
  go_wp2
  go_ret
  exact ⟨rfl, B22.out.z⟩
end Go.Proofs.Ytiekkninnjffpaa
