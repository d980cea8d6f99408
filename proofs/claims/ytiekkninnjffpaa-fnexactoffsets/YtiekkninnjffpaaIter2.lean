import Derived.Test.YtiekkninnjffpaaIter
import Derived.Test.YtiekkninnjffpaaSpecVV
namespace Go.Proofs.Ytiekkninnjffpaa
open Go.ChangeShapes Go.RowKit Go.Shelf
set_option linter.unusedSimpArgs false
set_option linter.unusedVariables false

attribute [local go_sem] Oper.semAt_some

theorem foldl_mul (xs : List Int) : ∀ a : Int, xs.foldl (· * ·) a = a * xs.foldl (· * ·) 1 := by
  induction xs with
  | nil => intro a; simp
  | cons x xs ih =>
    intro a
    simp only [List.foldl_cons]
    rw [ih (a * x), ih (1 * x), Int.one_mul, Int.mul_assoc]
theorem prod_cons (n : Int) (xs : List Int) : prod (n :: xs) = n * prod xs := by
  unfold prod
  simp only [List.foldl_cons]
  rw [foldl_mul, Int.one_mul]
theorem mrg1_prod (n s : Int) : ∀ (ns ts : List Int), ns.length = ts.length → prod (mrg1 n s ns ts).1 = n * prod ns
  | [], [], _ => by
    rw [mrg1_nil]
    split
    · next h => subst h; simp [prod]
    · rw [prod_cons]
  | m :: ns, t :: ts, _ => by
    rw [mrg1_cons]
    split
    · next h => subst h; simp
    · split
      · rw [prod_cons, prod_cons, Int.mul_comm m n, Int.mul_assoc]
      · rw [prod_cons n (m :: ns)]
  | [], _ :: _, h => by simp at h
  | _ :: _, [], h => by simp at h
theorem mrg1_ge (n s : Int) (hn : 1 ≤ n) : ∀ (ns ts : List Int), (∀ m ∈ ns, 1 ≤ m) → ∀ m ∈ (mrg1 n s ns ts).1, 1 ≤ m
  | [], ts, h => by
    rw [mrg1_none]
    split
    · simp
    · intro k hk
      have : k = n := by simpa using hk
      omega
  | m :: ns, [], h => by
    rw [mrg1_half]
    split
    · exact h
    · intro k hk
      rcases List.mem_cons.1 hk with rfl | hk
      · exact hn
      · exact h k hk
  | m :: ns, t :: ts, h => by
    have hm : 1 ≤ m := h m (List.mem_cons_self ..)
    rw [mrg1_cons]
    split
    · exact h
    · split
      · intro k hk
        rcases List.mem_cons.1 hk with rfl | hk
        · have : 1 * 1 ≤ m * n := Int.mul_le_mul hm hn (by omega) (by omega)
          omega
        · exact h k (List.mem_cons_of_mem _ hk)
      · intro k hk
        rcases List.mem_cons.1 hk with rfl | hk
        · exact hn
        · exact h k hk
theorem mrg_prod : ∀ (xs ss : List Int), xs.length = ss.length → (∀ n ∈ xs, 1 ≤ n) → prod (mrg xs ss).1 = prod xs ∧ ∀ m ∈ (mrg xs ss).1, 1 ≤ m
  | [], [], _, _ => by simp [mrg]
  | n :: ns, s :: ss, h, hp => by
    have hl : ns.length = ss.length := by simpa using h
    have ih := mrg_prod ns ss hl (fun k hk => hp k (List.mem_cons_of_mem _ hk))
    refine ⟨?_, mrg1_ge n s (hp n (List.mem_cons_self ..)) _ _ ih.2⟩
    show prod (mrg1 n s _ _).1 = _
    rw [mrg1_prod n s _ _ (mrg_len ns ss hl), ih.1, prod_cons]
  | [], _ :: _, h, _ => by simp at h
  | _ :: _, [], h, _ => by simp at h
theorem le_prod : ∀ (ns : List Int), (∀ m ∈ ns, 1 ≤ m) → 1 ≤ prod ns ∧ ∀ m ∈ ns, m ≤ prod ns
  | [], _ => by simp [prod]
  | n :: ns, h => by
    have ih := le_prod ns (fun k hk => h k (List.mem_cons_of_mem _ hk))
    have hn := h n (List.mem_cons_self ..)
    rw [prod_cons]
    have h1 : n * 1 ≤ n * prod ns := Int.mul_le_mul_of_nonneg_left ih.1 (by omega)
    have h2 : 1 * prod ns ≤ n * prod ns := Int.mul_le_mul_of_nonneg_right hn (by omega)
    refine ⟨by omega, fun m hm => ?_⟩
    rcases List.mem_cons.1 hm with rfl | hm
    · omega
    · have := ih.2 m hm
      omega

/-- The places of a view, in order; none where it has no element. -/
def offsL (xs ss : List Int) (off : Int) : List Int := if prod xs = 0 then [] else places xs ss off

theorem grown_ext {A B : World} (x : Ext A B) : A.grownBy B none := ⟨x.bl.os, x.bl.tape, x.bl.output, x.bl.size, fun k hk _ => x.bl.block k hk⟩

theorem prod_pos_of {xs : List Int} (hr : InR xs xs.length) (h0 : prod xs ≠ 0) : ∀ n ∈ xs, 1 ≤ n := fun n hn => by
  obtain ⟨j, hj, e⟩ := getD_mem hn
  have h1 := (hr j hj).1
  rcases Int.lt_or_le n 1 with q | q
  · exfalso
    have hz : xs.getD j 0 = 0 := by omega
    have := prod_zero_aux' xs j hz xs.length hj (Nat.le_refl _)
    rw [List.take_length] at this
    exact h0 this
  · exact q
 where
  prod_zero_aux' (ys : List Int) (a : Nat) (h0 : ys.getD a 0 = 0) : ∀ k, a < k → k ≤ ys.length → prod (ys.take k) = 0
    | 0, h, _ => absurd h (Nat.not_lt_zero _)
    | k + 1, h, hk => by
      rw [prod_take ys k (by omega)]
      by_cases e : a = k
      · subst e; rw [h0]; simp
      · rw [prod_zero_aux' ys a h0 k (by omega) (by omega)]; simp

theorem mrg_len2 : ∀ (xs ss : List Int), xs.length = ss.length → (mrg xs ss).1.length ≤ xs.length
  | [], [], _ => by simp [mrg]
  | n :: ns, s :: ss, h => by
    have hl : ns.length = ss.length := by simpa using h
    have ih := mrg_len2 ns ss hl
    have hm : ∀ (a b : List Int), (mrg1 n s a b).1.length ≤ a.length + 1 := fun a b => by
      cases a with
      | nil => rw [mrg1_none]; split <;> simp
      | cons m a =>
        cases b with
        | nil => rw [mrg1_half]; split <;> simp
        | cons t b => rw [mrg1_cons]; split <;> (try split) <;> simp
    have h2 : (mrg (n :: ns) (s :: ss)).1.length ≤ (mrg ns ss).1.length + 1 := hm _ _
    simp only [List.length_cons]
    omega
  | [], _ :: _, h => by simp at h
  | _ :: _, [], h => by simp at h
/-- Every merged stride is one of the view's. -/
theorem mrg_strides : ∀ (xs ss : List Int), ∀ t ∈ (mrg xs ss).2, t ∈ ss
  | [], ss, t, h => by simp [mrg] at h
  | n :: ns, [], t, h => by simp [mrg] at h
  | n :: ns, s :: ss, t, h => by
    have ih := mrg_strides ns ss
    have hm : ∀ (a b : List Int), ∀ t ∈ (mrg1 n s a b).2, t ∈ s :: b := fun a b t ht => by
      cases a with
      | nil =>
        rw [mrg1_none] at ht
        split at ht
        · exact List.mem_cons_of_mem _ ht
        · exact ht
      | cons m a =>
        cases b with
        | nil =>
          rw [mrg1_half] at ht
          split at ht
          · exact List.mem_cons_of_mem _ ht
          · exact ht
        | cons u b =>
          rw [mrg1_cons] at ht
          split at ht
          · exact List.mem_cons_of_mem _ ht
          · split at ht
            · exact List.mem_cons_of_mem _ ht
            · exact ht
    rcases List.mem_cons.1 (hm _ _ t h) with rfl | h
    · exact List.mem_cons_self ..
    · exact List.mem_cons_of_mem _ (ih t h)

set_option maxRecDepth 100000 in
set_option maxHeartbeats 2000000 in
/-- The walk of the merged view goes by the view's own places. -/
theorem walk_merged (l b : Nat) (xs ss : List Int) (off : Int) (h4 : xs.length ≤ 4) (hl : ss.length = xs.length) (hr : InR xs xs.length) (hz : prod xs ≠ 0) (hp : prod xs ≤ 4096) (hss : InS ss ss.length) (ho : 0 ≤ off ∧ off ≤ 4096) (Pr : Int → Prop) (hPr : ∀ x ∈ offsL xs ss off, Pr x) (J Jx : List Int → World → Prop) (hJ : AbidesFrom b J)
    (hY : ∀ m pre x W, Pr x → J pre W → pre.length < (offsL xs ss off).length → YieldAt Fence.wide m Try.prog l #[.int .i64 x] W fun e W' =>
      (e = .returned (.bool true) ∧ J (pre ++ [x]) W' ∧ KC b W W') ∨ (e = .returned (.bool false) ∧ Jx (pre ++ [x]) W'))
    (n : Nat) (W : World) (hb : b ≤ W.heap.size) (h0 : J [] W) :
    CallsIn Fence.wide n Try.prog 84 #[.agg (vw (mrg xs ss).1.reverse (mrg xs ss).2.reverse off), .int .i64 (((mrg xs ss).1.reverse.length : Int) - 1), .int .i64 off, .func (.yield l) #[] #[]] W fun e W' =>
        (e = .returned (.bool true) ∧ J (offsL xs ss off) W') ∨ (e = .returned (.bool false) ∧ ∃ q, q <+: offsL xs ss off ∧ Jx q W') := by
  have hpos := prod_pos_of hr hz
  have hM := mrg_prod xs ss hl.symm hpos
  have hle := le_prod _ hM.2
  have hlen := mrg_len xs ss hl.symm
  have hlen4 := mrg_len2 xs ss hl.symm
  have hl4 : (mrg xs ss).1.reverse.length ≤ 4 := by rw [List.length_reverse]; omega
  have hpl : plD (mrg xs ss).1.reverse (mrg xs ss).2.reverse (mrg xs ss).1.reverse.length off = offsL xs ss off := by
    unfold plD offsL
    rw [if_neg hz, List.take_length, List.length_reverse, hlen, ← List.length_reverse, List.take_length, List.reverse_reverse, List.reverse_reverse]
    exact places_mrg xs ss off hl.symm (fun k hk => by have := hpos k hk; omega)
  have key := walk_in Fence.wide rfl trivial rfl l b (offsL xs ss off).length Pr J Jx hJ hY (mrg xs ss).1.reverse (mrg xs ss).2.reverse off (by simp; omega) (by simp [hlen])
    (fun m hm => by
      have h1 := hM.2 m (List.mem_reverse.1 hm)
      have h2 := hle.2 m (List.mem_reverse.1 hm)
      rw [hM.1] at h2
      omega)
    (fun t ht => by
      obtain ⟨j, hj, e⟩ := getD_mem (mrg_strides xs ss t (List.mem_reverse.1 ht))
      have := hss j hj
      omega)
    (mrg xs ss).1.reverse.length (Nat.le_refl _) n off [] W hb (by omega) h0 (by rw [hpl]; simp) (by rw [hpl]; exact hPr)
  rw [hpl] at key
  refine key.mono ?_
  rintro e W' (⟨rfl, h, _⟩ | ⟨rfl, q, hq, h⟩)
  · exact .inl ⟨rfl, by simpa using h⟩
  · exact .inr ⟨rfl, q, hq, by simpa using h⟩
end Go.Proofs.Ytiekkninnjffpaa
