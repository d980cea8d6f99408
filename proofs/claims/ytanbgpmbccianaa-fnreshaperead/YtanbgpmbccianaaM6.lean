import Derived.Test.YtanbgpmbccianaaM3
import Derived.Test.YtanbgpmbccianaaM1
import Derived.Test.YtanbgpmbccianaaPlaces
import Derived.Test.YtanbgpmbccianaaM4
import Derived.RangeFuncNested
import Derived.RangeFuncBound
import Derived.RangeFuncCalls
import Derived.RangeFuncLeaves
import Derived.Shelf.Abstract
import Derived.Shelf.RegionOpen
import Derived.WalkKit
import Derived.OwnWalkIn
import Derived.TacticsInMore
import Derived.LoopNIn
import Derived.LoopIn
import Derived.Test.YtanbgpmbccianaaSpecVV
namespace Go.Proofs.Ytanbgpmbccianaa
set_option linter.unusedSimpArgs false
set_option linter.unusedVariables false

/-- The indexes of element k in row-major order. -/
def idxL : List Int → Nat → List Int
  | [], _ => []
  | n :: ns, k => ((k / plen ns % n.toNat : Nat) : Int) :: idxL ns k
def dotL : List Int → List Int → Int
  | s :: ss, i :: is => i * s + dotL ss is
  | _, _ => 0
theorem idxL_len (xs : List Int) (k : Nat) : (idxL xs k).length = xs.length := by
  induction xs with
  | nil => rfl
  | cons n ns ih => simp [idxL, ih]
theorem idxL_mod (xs : List Int) (c k : Nat) : idxL xs (k % (c * plen xs)) = idxL xs k := by
  induction xs generalizing c with
  | nil => rfl
  | cons n ns ih =>
    unfold idxL
    have e : c * plen (n :: ns) = (c * n.toNat) * plen ns := by rw [plen, Nat.mul_assoc]
    rw [e, ih]
    congr 2
    rw [Nat.mod_mul_left_div_self, Nat.mod_mul_left_mod]
theorem flat_at {F : Nat → List Int} {m : Nat} (hm : ∀ i, (F i).length = m) (h0 : 0 < m) : ∀ n k, k < n * m → ((List.range n).flatMap F)[k]? = (F (k / m))[k % m]? := by
  intro n
  induction n with
  | zero => intro k hk; omega
  | succ n ih =>
    intro k hk
    have hl : ((List.range n).flatMap F).length = n * m := by
      clear ih hk
      induction n with
      | zero => simp
      | succ n ih => rw [List.range_succ, List.flatMap_append, List.length_append, ih, Nat.succ_mul]; simp [hm]
    rw [List.range_succ, List.flatMap_append]
    by_cases h : k < n * m
    · rw [List.getElem?_append_left (by omega)]
      exact ih k h
    · rw [List.getElem?_append_right (by omega), hl]
      rw [Nat.succ_mul] at hk
      have e1 : k / m = n := by
        rw [Nat.div_eq_iff h0]
        constructor
        · omega
        · omega
      have e2 : k - n * m = k % m := by
        have := Nat.div_add_mod k m
        rw [e1, Nat.mul_comm] at this
        omega
      rw [e1, e2]
      simp
theorem places_at : ∀ (xs ss : List Int) (off : Int) (k : Nat), xs.length = ss.length → (∀ n ∈ xs, 1 ≤ n) → k < plen xs → (places xs ss off)[k]? = some (off + dotL ss (idxL xs k))
  | [], ss, off, k, _, _, hk => by
    have : k = 0 := by simp [plen] at hk; omega
    subst this
    cases ss <;> simp [places, dotL, idxL]
  | n :: ns, [], off, k, h, _, _ => by simp at h
  | n :: ns, s :: ss, off, k, h, hp, hk => by
    have hl : ns.length = ss.length := by simpa using h
    have hp' : ∀ m ∈ ns, 1 ≤ m := fun m hm => hp m (List.mem_cons_of_mem _ hm)
    have h1 := plen_pos ns hp'
    rw [plen] at hk
    rw [places, flat_at (fun i => places_len ns ss _ hl) (by omega) n.toNat k hk]
    rw [places_at ns ss _ (k % plen ns) hl hp' (Nat.mod_lt _ (by omega))]
    have e := idxL_mod ns 1 k
    rw [Nat.one_mul] at e
    rw [e]
    have hd : k / plen ns < n.toNat := (Nat.div_lt_iff_lt_mul (by omega)).2 hk
    show some _ = some (off + dotL (s :: ss) (((k / plen ns % n.toNat : Nat) : Int) :: idxL ns k))
    rw [Nat.mod_eq_of_lt hd, dotL]
    congr 1
    omega
end Go.Proofs.Ytanbgpmbccianaa
namespace Go.Proofs.Ytanbgpmbccianaa
open Go.ChangeShapes Go.RowKit
set_option linter.unusedSimpArgs false
set_option linter.unusedVariables false

set_option maxRecDepth 100000 in
set_option maxHeartbeats 1000000 in
theorem lwSame_any {w : World} {v u : Value} {xs ys : List Int} (h : Ints w v xs) (g : Ints w u ys) (hl : xs.length ≤ 1000000000000) :
    Calls Try.prog 8 #[v, u] w fun e w' => e = .returned (.bool (decide (xs = ys))) ∧ Ext w w' := by
  obtain ⟨sa, cap, rfl, hx⟩ := h
  obtain ⟨ta, dap, rfl, hy⟩ := g
  have HX := hide hx
  have HY := hide hy
  clear hx hy
  by_cases hle : xs.length = ys.length
  · have hle' : (xs.length : Int) = (ys.length : Int) := by omega
    go_enter Try.func8, Try.ntmps8
    go_wp2
    go_loopw [5] (fun i wr => ∃ k : Nat, i = .int .i64 k ∧ k ≤ xs.length ∧ Hid (∀ j, j < k → xs.getD j 0 = ys.getD j 0) ∧ Ext w wr) (fun i _ => xs.length - (intOf i).toNat)
    case atStart => exact ⟨0, rfl, by omega, fun j hj => absurd hj (Nat.not_lt_zero _), Ext.refl w⟩
    case round =>
      obtain ⟨k, rfl, hk, he, hw⟩ := hrel
      have HW := hide hw
      clear hw
      by_cases hlt : k < xs.length
      · rcases HX.out with h0 | ⟨b, off, rfl, hrow⟩
        · rw [h0] at hlt; simp at hlt
        rcases HY.out with h0 | ⟨b2, off2, rfl, hrow2⟩
        · rw [hle, h0] at hlt; simp at hlt
        have q0 := HW.out.box (hrow k hlt)
        have q1 := HW.out.box (hrow2 k (by omega))
        have hk0 : (0 : Int) ≤ (k : Int) := Int.natCast_nonneg _
        have hk1 : (k : Int) < (xs.length : Int) := by omega
        have hk2 : (k : Int) < (ys.length : Int) := by omega
        by_cases hq : xs.getD k 0 = ys.getD k 0
        · have he2 : Hid (∀ j, j < k + 1 → xs.getD j 0 = ys.getD j 0) := fun j hj => by
            by_cases e : j = k
            · rw [e]; exact hq
            · exact he.out j (by omega)
          rw [hq] at q0
          clear hq
          generalize ys.getD k 0 = x at q0 q1
          clear hrow hrow2
          go_wp2_with fail
          go_region
          all_goals go_wp2
          all_goals go_roundw
          all_goals first | exact ⟨k + 1, by go_num, by omega, he2, HW.out.drew⟩ | (simp [intOf]; omega)
        · have hne : ¬ xs = ys := fun e => hq (by rw [e])
          have hd : Hid (decide (xs = ys) = false) := decide_eq_false hne
          generalize xs.getD k 0 = x at q0 hq
          generalize ys.getD k 0 = y at q1 hq
          have hq2 : (x != y) = true := by simp [hq]
          clear hrow hrow2 hne
          go_wp2_with fail
          go_region
          all_goals go_wp2
          all_goals go_ret
          all_goals exact ⟨ret_bool hd.out.symm, HW.out.drew⟩
      · have hkk : k = xs.length := by omega
        subst hkk
        have hd : Hid (decide (xs = ys) = true) := decide_eq_true (eq_of_getD hle he.out)
        go_wp2
        go_ret
        exact ⟨ret_bool hd.out.symm, HW.out⟩
  · have hd : Hid (decide (xs = ys) = false) := decide_eq_false (fun e => hle (by rw [e]))
    have hne : ¬ (xs.length : Int) = (ys.length : Int) := by omega
    go_enter Try.func8, Try.ntmps8
    go_wp2
    go_ret
    exact ⟨ret_bool hd.out.symm, Ext.refl w⟩

set_option maxRecDepth 100000 in
set_option maxHeartbeats 1000000 in
theorem lwCount_any {w : World} {v : Value} {xs : List Int} (h : Ints w v xs) (h4 : xs.length ≤ 4) (hr : InR xs xs.length) :
    Calls Try.prog 9 #[v] w fun e w' => e = .returned (.int .i64 (prod xs)) ∧ w' = w := by
  obtain ⟨sa, cap, rfl, hx⟩ := h
  have HX := hide hx
  have HR := hide hr
  clear hx hr
  have h4' : (xs.length : Int) ≤ 4 := by omega
  go_enter Try.func9, Try.ntmps9
  go_wp2
  go_loopw [3, 4] (fun m i wr => ∃ k : Nat, i = .int .i64 k ∧ m = .int .i64 (prod (xs.take k)) ∧ k ≤ xs.length ∧ wr = w) (fun m i _ => xs.length - (intOf i).toNat)
  case atStart => exact ⟨0, rfl, rfl, by omega, rfl⟩
  case round =>
    obtain ⟨k, rfl, rfl, hk, rfl⟩ := hrel
    have hb := prod_bd xs k (by omega) hk (fun j hj => HR.out j (by omega))
    have hb2 := bd_le k
    by_cases hlt : k < xs.length
    · rcases HX.out with h0 | ⟨b, off, rfl, hrow⟩
      · rw [h0] at hlt; simp at hlt
      have q0 := hrow k hlt
      clear hrow
      have hk0 : (0 : Int) ≤ (k : Int) := Int.natCast_nonneg _
      have hk1 : (k : Int) < (xs.length : Int) := by omega
      have hp := prod_take xs k hlt
      have hB := prod_bd xs (k + 1) (by omega) (by omega) (fun j hj => HR.out j (by omega))
      have hB2 := bd_le (k + 1)
      generalize bd (k + 1) = B1 at hB hB2
      generalize bd k = B0 at hb hb2
      generalize hP1 : prod (xs.take (k + 1)) = P1 at hp hB
      have HP1 := hide hP1
      clear hP1
      generalize prod (xs.take k) = P0 at hp hb ⊢
      generalize xs.getD k 0 = x at q0 hp
      have hw1 : wrap64 (P0 * x) = P1 := by rw [← hp]; unfold wrap64; omega
      clear hp
      go_wp2
      go_roundw
      · exact ⟨k + 1, by go_num, by first | (rw [HP1.out]; done) | (rw [HP1.out, hw1]), by omega, by trivial⟩
      · simp [intOf]; omega
    · have hkk : k = xs.length := by omega
      subst hkk
      rw [List.take_length]
      go_wp2
      go_ret
      exact ⟨rfl, rfl⟩
end Go.Proofs.Ytanbgpmbccianaa
namespace Go.Proofs.Ytanbgpmbccianaa
open Go.ChangeShapes Go.RowKit
set_option linter.unusedSimpArgs false
set_option linter.unusedVariables false

theorem idxL_getD : ∀ (xs : List Int) (k a : Nat), a < xs.length → (idxL xs k).getD a 0 = ((k / plen (xs.drop (a + 1)) % (xs.getD a 0).toNat : Nat) : Int)
  | [], k, a, h => by simp at h
  | n :: ns, k, 0, _ => by simp [idxL]
  | n :: ns, k, a + 1, h => by
    have := idxL_getD ns k a (by simpa using h)
    simpa [idxL] using this
theorem plen_drop : ∀ (xs : List Int) (a : Nat), a < xs.length → plen (xs.drop a) = (xs.getD a 0).toNat * plen (xs.drop (a + 1))
  | [], a, h => by simp at h
  | n :: ns, 0, _ => by simp [plen]
  | n :: ns, a + 1, h => by simpa using plen_drop ns a (by simpa using h)
/-- The last m are in, the rest is 0. -/
def tailF (xs : List Int) (m : Nat) : List Int := List.replicate (xs.length - m) 0 ++ xs.drop (xs.length - m)
theorem tailF_len (xs : List Int) (m : Nat) : (tailF xs m).length = xs.length := by unfold tailF; simp
theorem tailF_zero (xs : List Int) : tailF xs 0 = List.replicate xs.length 0 := by unfold tailF; simp
theorem tailF_full (xs : List Int) : tailF xs xs.length = xs := by unfold tailF; simp
theorem tailF_set (xs : List Int) (m : Nat) (hm : m < xs.length) : (tailF xs m).set (xs.length - 1 - m) (xs.getD (xs.length - 1 - m) 0) = tailF xs (m + 1) := by
  unfold tailF
  apply List.ext_getElem?
  intro j
  simp only [List.getElem?_set, List.getElem?_append, List.length_append, List.length_replicate, List.length_drop, List.getElem?_replicate, List.getElem?_drop, List.getD_eq_getElem?_getD]
  by_cases e : xs.length - 1 - m = j
  · subst e
    have h1 : xs.length - 1 - m < xs.length - m + (xs.length - (xs.length - m)) := by omega
    have h2 : ¬ xs.length - 1 - m < xs.length - (m + 1) := by omega
    have h3 : xs.length - (m + 1) + (xs.length - 1 - m - (xs.length - (m + 1))) = xs.length - 1 - m := by omega
    rw [if_pos rfl, if_pos h1, if_neg h2, h3, List.getElem?_eq_getElem (by omega)]
    rfl
  · rw [if_neg e]
    by_cases h : j < xs.length - (m + 1)
    · have h2 : j < xs.length - m := by omega
      rw [if_pos h2, if_pos h2, if_pos h, if_pos h]
    · have h2 : ¬ j < xs.length - m := by omega
      rw [if_neg h2, if_neg h]
      congr 1
      omega

end Go.Proofs.Ytanbgpmbccianaa
namespace Go.Proofs.Ytanbgpmbccianaa
set_option linter.unusedSimpArgs false
set_option linter.unusedVariables false

/-- The place grows by one axis. -/
theorem dotL_take : ∀ (ss is : List Int) (k : Nat), k < ss.length → k < is.length → dotL (ss.take (k + 1)) (is.take (k + 1)) = dotL (ss.take k) (is.take k) + is.getD k 0 * ss.getD k 0
  | [], is, k, h, _ => by simp at h
  | s :: ss, [], k, _, h => by simp at h
  | s :: ss, i :: is, 0, _, _ => by cases ss <;> cases is <;> simp [dotL]
  | s :: ss, i :: is, k + 1, h1, h2 => by
    have := dotL_take ss is k (by simpa using h1) (by simpa using h2)
    simp only [List.take_succ_cons, dotL, List.getD_cons_succ]
    rw [this]
    omega
/-- A slice: the stride of one axis is a multiple. -/
theorem dot_set : ∀ (ss is : List Int) (a : Nat) (t : Int), dotL (ss.set a (ss.getD a 0 * t)) is = dotL ss (is.set a (is.getD a 0 * t))
  | [], is, a, t => by cases is <;> simp [dotL]
  | s :: ss, [], a, t => by cases a <;> simp [dotL]
  | s :: ss, i :: is, 0, t => by
    simp only [List.set_cons_zero, dotL, List.getD_cons_zero]
    rw [Int.mul_comm s t, Int.mul_assoc]
  | s :: ss, i :: is, a + 1, t => by
    simp only [List.set_cons_succ, dotL, List.getD_cons_succ]
    rw [dot_set ss is a t]
/-- Axes of stride 0 in front count for nothing. -/
theorem dot_zeros : ∀ (p : Nat) (ss is : List Int), dotL (List.replicate p 0 ++ ss) is = dotL ss (is.drop p)
  | 0, ss, is => by simp
  | p + 1, ss, [] => by cases ss <;> simp [List.replicate_succ, dotL]
  | p + 1, ss, i :: is => by
    simp only [List.replicate_succ, List.cons_append, dotL, List.drop_succ_cons]
    rw [dot_zeros p ss is]
    omega
/-- Two lists of strides that differ at indexes that are 0 alone. -/
theorem dot_congr : ∀ (ss ts is js : List Int), ss.length = ts.length → is.length = js.length → (∀ k, k < ss.length → is.getD k 0 * ss.getD k 0 = js.getD k 0 * ts.getD k 0) → dotL ss is = dotL ts js
  | [], [], is, js, _, _, _ => by cases is <;> cases js <;> simp [dotL]
  | [], _ :: _, _, _, h, _, _ => by simp at h
  | _ :: _, [], _, _, h, _, _ => by simp at h
  | s :: ss, t :: ts, [], [], _, _, _ => by simp [dotL]
  | s :: ss, t :: ts, [], _ :: _, _, h, _ => by simp at h
  | s :: ss, t :: ts, _ :: _, [], _, h, _ => by simp at h
  | s :: ss, t :: ts, i :: is, j :: js, h1, h2, h => by
    have h0 := h 0 (by simp)
    simp only [List.getD_cons_zero] at h0
    have := dot_congr ss ts is js (by simpa using h1) (by simpa using h2) (fun k hk => by simpa using h (k + 1) (by simpa using hk))
    simp only [dotL]
    rw [h0, this]
/-- The index along an axis of length 1 is 0. -/
theorem idxL_one (xs : List Int) (k a : Nat) (h : a < xs.length) (h1 : xs.getD a 0 = 1) : (idxL xs k).getD a 0 = 0 := by
  induction xs generalizing a with
  | nil => simp at h
  | cons n ns ih =>
    cases a with
    | zero =>
      simp only [List.getD_cons_zero] at h1
      subst h1
      simp [idxL, Nat.mod_one]
    | succ a =>
      simp only [List.getD_cons_succ] at h1
      simpa [idxL] using ih a (by simpa using h) h1
/-- What the law takes for the index along axis i: the last one that the permutation sends there. -/
def pick : List Int → List Int → Int → Int → Int
  | p :: ps, x :: xs, i, acc => pick ps xs i (if p = i then x else acc)
  | _, _, _, acc => acc
theorem pick_not : ∀ (ps xs : List Int) (i acc : Int), i ∉ ps → pick ps xs i acc = acc
  | [], xs, i, acc, _ => by cases xs <;> rfl
  | p :: ps, [], i, acc, _ => rfl
  | p :: ps, x :: xs, i, acc, h => by
    have h1 : ¬ p = i := fun e => h (by rw [e]; exact List.mem_cons_self)
    have h2 : i ∉ ps := fun e => h (List.mem_cons_of_mem _ e)
    rw [pick, if_neg h1]
    exact pick_not ps xs i acc h2
theorem pick_cons (p : Int) (ps : List Int) (x : Int) (xs : List Int) (i : Int) (h : p ∉ ps) : pick (p :: ps) (x :: xs) i 0 = if p = i then x else pick ps xs i 0 := by
  rw [pick]
  by_cases e : p = i
  · subst e
    rw [if_pos rfl, if_pos rfl]
    exact pick_not ps xs p x h
  · rw [if_neg e, if_neg e]
theorem dot_put : ∀ (ss is : List Int) (a : Nat) (x : Int), a < is.length → dotL ss (is.set a x) = dotL ss is + (x - is.getD a 0) * ss.getD a 0
  | [], is, a, x, _ => by cases is <;> cases a <;> simp [dotL]
  | s :: ss, [], a, x, h => by simp at h
  | s :: ss, i :: is, 0, x, _ => by
    simp only [List.set_cons_zero, dotL, List.getD_cons_zero]
    rw [Int.sub_mul]
    omega
  | s :: ss, i :: is, a + 1, x, h => by
    simp only [List.set_cons_succ, dotL, List.getD_cons_succ]
    rw [dot_put ss is a x (by simpa using h)]
    omega
theorem dot_rep : ∀ (ss : List Int) (n : Nat), dotL ss (List.replicate n 0) = 0
  | [], n => by cases n <;> simp [dotL, List.replicate_succ]
  | s :: ss, 0 => by simp [dotL]
  | s :: ss, n + 1 => by simp only [List.replicate_succ, dotL, dot_rep ss n]; omega
theorem perm_dot (ss : List Int) : ∀ (perm is : List Int), perm.length = is.length → perm.Nodup → (∀ p ∈ perm, 0 ≤ p ∧ p < (ss.length : Int)) → dotL (perm.map fun p => ss.getD p.toNat 0) is = dotL ss ((List.range ss.length).map fun (i : Nat) => pick perm is (i : Int) 0)
  | [], [], _, _, _ => by
    have : ∀ n, dotL ss ((List.range n).map fun (i : Nat) => pick [] [] (i : Int) 0) = 0 := fun n => by
      have e : ((List.range n).map fun (i : Nat) => pick [] [] (i : Int) 0) = List.replicate n 0 := by
        apply List.ext_getElem
        · simp
        · intro j h1 h2; simp [pick]
      rw [e]
      exact dot_rep ss n
    rw [this]
    simp [dotL]
  | [], _ :: _, h, _, _ => by simp at h
  | _ :: _, [], h, _, _ => by simp at h
  | p :: ps, x :: xs, h, hn, hp => by
    have hnp : p ∉ ps := (List.nodup_cons.1 hn).1
    have ih := perm_dot ss ps xs (by simpa using h) (List.nodup_cons.1 hn).2 (fun q hq => hp q (List.mem_cons_of_mem _ hq))
    obtain ⟨h0, h1⟩ := hp p List.mem_cons_self
    have e : ((List.range ss.length).map fun (i : Nat) => pick (p :: ps) (x :: xs) (i : Int) 0) = ((List.range ss.length).map fun (i : Nat) => pick ps xs (i : Int) 0).set p.toNat x := by
      apply List.ext_getElem
      · simp
      · intro j g1 g2
        simp only [List.getElem_map, List.getElem_range, List.getElem_set]
        rw [pick_cons p ps x xs j hnp]
        by_cases q : p.toNat = j
        · rw [if_pos q, if_pos (by omega)]
        · rw [if_neg q, if_neg (by omega)]
    rw [e, dot_put _ _ _ _ (by simp; omega), ← ih]
    have hz : ((List.range ss.length).map fun (i : Nat) => pick ps xs (i : Int) 0).getD p.toNat 0 = 0 := by
      rw [List.getD_eq_getElem?_getD, List.getElem?_map, List.getElem?_range (by omega)]
      show pick ps xs ((p.toNat : Nat) : Int) 0 = 0
      rw [show ((p.toNat : Nat) : Int) = p by omega]
      exact pick_not ps xs p 0 hnp
    rw [hz, List.map_cons, dotL]
    rw [Int.sub_zero]
    omega
end Go.Proofs.Ytanbgpmbccianaa
namespace Go.Proofs.Ytanbgpmbccianaa
set_option linter.unusedSimpArgs false
set_option linter.unusedVariables false

/-- One axis more ahead of merged ones (all lists: the slowest axis first). -/
def mrg1 (n s : Int) : List Int → List Int → List Int × List Int
  | m :: ns, t :: ts => if n = 1 then (m :: ns, t :: ts) else if s = t * m then (m * n :: ns, t :: ts) else (n :: m :: ns, s :: t :: ts)
  | ns, ts => if n = 1 then (ns, ts) else (n :: ns, s :: ts)
def mrg : List Int → List Int → List Int × List Int
  | n :: ns, s :: ss => mrg1 n s (mrg ns ss).1 (mrg ns ss).2
  | _, _ => ([], [])

theorem mrg1_nil (n s : Int) : mrg1 n s [] [] = if n = 1 then ([], []) else ([n], [s]) := rfl
theorem mrg1_cons (n s m t : Int) (ns ts : List Int) : mrg1 n s (m :: ns) (t :: ts) = if n = 1 then (m :: ns, t :: ts) else if s = t * m then (m * n :: ns, t :: ts) else (n :: m :: ns, s :: t :: ts) := rfl
theorem mrg1_half (n s m : Int) (ns : List Int) : mrg1 n s (m :: ns) [] = if n = 1 then (m :: ns, []) else (n :: m :: ns, [s]) := rfl
theorem mrg1_none (n s : Int) (ts : List Int) : mrg1 n s [] ts = if n = 1 then ([], ts) else ([n], s :: ts) := by cases ts <;> rfl
theorem mrg1_len (n s : Int) : ∀ (ns ts : List Int), ns.length = ts.length → (mrg1 n s ns ts).1.length = (mrg1 n s ns ts).2.length
  | [], [], _ => by rw [mrg1_nil]; split <;> rfl
  | m :: ns, t :: ts, h => by
    have h' : ns.length = ts.length := by simpa using h
    rw [mrg1_cons]
    split
    · simp [h']
    · split <;> simp [h']
  | [], _ :: _, h => by simp at h
  | _ :: _, [], h => by simp at h
theorem mrg_len : ∀ (xs ss : List Int), xs.length = ss.length → (mrg xs ss).1.length = (mrg xs ss).2.length
  | [], [], _ => rfl
  | n :: ns, s :: ss, h => mrg1_len n s _ _ (mrg_len ns ss (by simpa using h))
  | [], _ :: _, h => by simp at h
  | _ :: _, [], h => by simp at h
theorem mrg1_le (n s : Int) : ∀ (ns ts : List Int), ns.length = ts.length → (mrg1 n s ns ts).1.length ≤ ns.length + 1
  | [], [], _ => by rw [mrg1_nil]; split <;> simp
  | m :: ns, t :: ts, h => by
    rw [mrg1_cons]
    split
    · simp
    · split <;> simp
  | [], _ :: _, h => by simp at h
  | _ :: _, [], h => by simp at h

/-- A count in a row of rows. -/
theorem flat_range {α : Type} (n m : Nat) (f : Nat → List α) : ((List.range n).flatMap fun i => (List.range m).flatMap fun j => f (i * m + j)) = (List.range (n * m)).flatMap f := by
  induction n with
  | zero => simp
  | succ n ih =>
    rw [List.range_succ, List.flatMap_append, ih, Nat.succ_mul, List.range_add, List.flatMap_append]
    simp [List.flatMap_map]

theorem places_one (s at_ : Int) (ns ss : List Int) : places (1 :: ns) (s :: ss) at_ = places ns ss at_ := by
  simp [places]

theorem places_mrg1 (n s : Int) (hn : 0 ≤ n) : ∀ (ns ts : List Int) (at_ : Int), ns.length = ts.length → (∀ m ∈ ns, 0 ≤ m) → places (mrg1 n s ns ts).1 (mrg1 n s ns ts).2 at_ = places (n :: ns) (s :: ts) at_
  | [], [], at_, _, _ => by
    rw [mrg1_nil]
    split
    · next h => subst h; rw [places_one]
    · rfl
  | m :: ns, t :: ts, at_, h, hp => by
    rw [mrg1_cons]
    split
    · next h1 => subst h1; rw [places_one]
    · split
      · next h1 h2 =>
        subst h2
        have hm : 0 ≤ m := hp m (List.mem_cons_self ..)
        have e : (m * n).toNat = n.toNat * m.toNat := by
          have h3 : m = (m.toNat : Int) := by omega
          have h4 : n = (n.toNat : Int) := by omega
          rw [h3, h4, ← Int.natCast_mul, Int.toNat_natCast, Int.toNat_natCast, Int.toNat_natCast, Nat.mul_comm]
        show ((List.range (m * n).toNat).flatMap fun (i : Nat) => places ns ts (at_ + (i : Int) * t)) = (List.range n.toNat).flatMap fun (i : Nat) => (List.range m.toNat).flatMap fun (j : Nat) => places ns ts (at_ + (i : Int) * (t * m) + (j : Int) * t)
        rw [e, ← flat_range]
        congr 1
        funext i
        congr 1
        funext j
        congr 1
        have h3 : m = (m.toNat : Int) := by omega
        rw [Int.natCast_add, Int.natCast_mul, ← h3, Int.add_mul, Int.mul_comm t m, ← Int.mul_assoc]
        omega
      · rfl
  | [], _ :: _, _, h, _ => by simp at h
  | _ :: _, [], _, h, _ => by simp at h

theorem mrg1_pos (n s : Int) (hn : 0 ≤ n) : ∀ (ns ts : List Int), (∀ m ∈ ns, 0 ≤ m) → ∀ m ∈ (mrg1 n s ns ts).1, 0 ≤ m
  | m :: ns, t :: ts, h => by
    have hm : 0 ≤ m := h m (List.mem_cons_self ..)
    have hr : ∀ k ∈ ns, 0 ≤ k := fun k hk => h k (List.mem_cons_of_mem _ hk)
    rw [mrg1_cons]
    split
    · exact h
    · split
      · intro k hk
        rcases List.mem_cons.1 hk with rfl | hk
        · exact Int.mul_nonneg hm hn
        · exact hr k hk
      · intro k hk
        rcases List.mem_cons.1 hk with rfl | hk
        · exact hn
        · exact h k hk
  | [], ts, h => by
    rw [mrg1_none]
    split
    · simp
    · intro k hk
      have : k = n := by simpa using hk
      omega
  | m :: ns, [], h => by
    rw [mrg1_half]
    split
    · exact h
    · intro k hk
      rcases List.mem_cons.1 hk with rfl | hk
      · exact hn
      · exact h k hk
theorem mrg_pos : ∀ (xs ss : List Int), (∀ n ∈ xs, 0 ≤ n) → ∀ m ∈ (mrg xs ss).1, 0 ≤ m
  | [], _, _ => by simp [mrg]
  | _ :: _, [], _ => by simp [mrg]
  | n :: ns, s :: ss, h => mrg1_pos n s (h n (List.mem_cons_self ..)) _ _ (mrg_pos ns ss (fun k hk => h k (List.mem_cons_of_mem _ hk)))

/-- Merged axes give the same places in the same order. -/
theorem places_mrg : ∀ (xs ss : List Int) (at_ : Int), xs.length = ss.length → (∀ n ∈ xs, 0 ≤ n) → places (mrg xs ss).1 (mrg xs ss).2 at_ = places xs ss at_
  | [], [], _, _, _ => rfl
  | n :: ns, s :: ss, at_, h, hp => by
    have hl : ns.length = ss.length := by simpa using h
    have hr : ∀ k ∈ ns, 0 ≤ k := fun k hk => hp k (List.mem_cons_of_mem _ hk)
    show places (mrg1 n s _ _).1 (mrg1 n s _ _).2 at_ = _
    rw [places_mrg1 n s (hp n (List.mem_cons_self ..)) _ _ at_ (mrg_len ns ss hl) (mrg_pos ns ss hr)]
    simp only [places]
    congr 1
    funext i
    exact places_mrg ns ss _ hl hr
  | [], _ :: _, _, h, _ => by simp at h
  | _ :: _, [], _, h, _ => by simp at h
end Go.Proofs.Ytanbgpmbccianaa
namespace Go.Proofs.Ytanbgpmbccianaa
open Go.ChangeShapes Go.RowKit
set_option linter.unusedSimpArgs false
set_option linter.unusedVariables false

/-- What the law was handed: the view at block w.heap.size, and a list. -/
structure LB (w W : World) (vS vT vP : Value) (off : Int) (xs ss ys : List Int) : Prop where
  a0 : W.cell? ⟨w.heap.size, 0, none⟩ = some vS
  a1 : W.cell? ⟨w.heap.size, 1, none⟩ = some vT
  a2 : W.cell? ⟨w.heap.size, 2, none⟩ = some (.int .i64 off)
  hS : IntsB W 0 w.heap.size vS xs
  hT : IntsB W 0 w.heap.size vT ss
  hP : IntsB W 0 w.heap.size vP ys
  z : Below w.heap.size w W
theorem LB.keep {w W W' : World} {vS vT vP : Value} {off : Int} {xs ss ys : List Int} (h : LB w W vS vT vP off xs ss ys) (x : Bel W W') : LB w W' vS vT vP off xs ss ys :=
  ⟨x.box h.a0, x.box h.a1, x.box h.a2, h.hS.keep x, h.hT.keep x, h.hP.keep x, Below.trans h.z (Below.mono x (Below.size h.z))⟩
theorem LB.mIn {w W W' : World} {lo hi : Nat} {vS vT vP : Value} {off : Int} {xs ss ys : List Int} (h : LB w W vS vT vP off xs ss ys) (m : MIn lo hi W W') (hl : w.heap.size < lo) : LB w W' vS vT vP off xs ss ys :=
  ⟨m.box _ _ _ (by omega) h.a0, m.box _ _ _ (by omega) h.a1, m.box _ _ _ (by omega) h.a2, h.hS.mIn m (by omega), h.hT.mIn m (by omega), h.hP.mIn m (by omega), Below.trans h.z (Below.mono m.bl (by omega))⟩
/-- The answer of the specification, at block b. -/
structure LW (W : World) (lo b : Nat) (c : Int) (v u : Value) (o : Int) (L S : List Int) : Prop where
  c0 : W.cell? ⟨b, 0, none⟩ = some (.int .i64 c)
  c1 : W.cell? ⟨b, 1, none⟩ = some v
  c2 : W.cell? ⟨b, 2, none⟩ = some u
  c3 : W.cell? ⟨b, 3, none⟩ = some (.int .i64 o)
  hL : IntsB W lo b v L
  hS : IntsB W lo b u S
theorem LW.keep {W W' : World} {lo b : Nat} {c : Int} {v u : Value} {o : Int} {L S : List Int} (h : LW W lo b c v u o L S) (x : Bel W W') : LW W' lo b c v u o L S :=
  ⟨x.box h.c0, x.box h.c1, x.box h.c2, x.box h.c3, h.hL.keep x, h.hS.keep x⟩
theorem LW.mIn {W W' : World} {lo b l k : Nat} {c : Int} {v u : Value} {o : Int} {L S : List Int} (h : LW W lo b c v u o L S) (m : MIn l k W W') (hl : b < l) : LW W' lo b c v u o L S :=
  ⟨m.box _ _ _ (by omega) h.c0, m.box _ _ _ (by omega) h.c1, m.box _ _ _ (by omega) h.c2, m.box _ _ _ (by omega) h.c3, h.hL.mIn m (by omega), h.hS.mIn m (by omega)⟩
theorem LW.start {W : World} {lo : Nat} {c : Int} {v u : Value} {o : Int} {L S : List Int} (hL : IntsB W lo W.heap.size v L) (hS : IntsB W lo W.heap.size u S) : LW (W.alloc (.cells #[.int .i64 c, v, u, .int .i64 o] 29)) lo W.heap.size c v u o L S := by
  have x : Ext W (W.alloc (.cells #[.int .i64 c, v, u, .int .i64 o] 29)) := (Ext.refl W).alloc _ _
  have n := fun j => new_cell W #[.int .i64 c, v, u, .int .i64 o] 29 W.heap.size rfl j
  exact ⟨n 0, n 1, n 2, n 3, hL.keep x.bl, hS.keep x.bl⟩

/-- The answer of the program, at block bg, its lists at g and h. -/
structure LG (W : World) (bg g h : Nat) (c : Int) (v u : Value) (o : Int) (L S : List Int) : Prop where
  c0 : W.cell? ⟨bg, 0, none⟩ = some (.int .i64 c)
  c1 : W.cell? ⟨bg, 1, none⟩ = some v
  c2 : W.cell? ⟨bg, 2, none⟩ = some u
  c3 : W.cell? ⟨bg, 3, none⟩ = some (.int .i64 o)
  hL : IntsB W g (g + 1) v L
  hS : IntsB W h (h + 1) u S
  fL : FZ W v L
  fS : FZ W u S
theorem LG.keep {W W' : World} {bg g k : Nat} {c : Int} {v u : Value} {o : Int} {L S : List Int} (h : LG W bg g k c v u o L S) (x : Bel W W') : LG W' bg g k c v u o L S :=
  ⟨x.box h.c0, x.box h.c1, x.box h.c2, x.box h.c3, h.hL.keep x, h.hS.keep x, h.fL.keep x, h.fS.keep x⟩
theorem LG.mIn {W W' : World} {bg g k l hi : Nat} {c : Int} {v u : Value} {o : Int} {L S : List Int} (h : LG W bg g k c v u o L S) (m : MIn l hi W W') (h1 : hi ≤ g) (h2 : hi ≤ k) (h3 : hi ≤ bg) : LG W' bg g k c v u o L S :=
  ⟨m.box _ _ _ (by omega) h.c0, m.box _ _ _ (by omega) h.c1, m.box _ _ _ (by omega) h.c2, m.box _ _ _ (by omega) h.c3, h.hL.mIn m (by omega), h.hS.mIn m (by omega), h.fL.mIn m, h.fS.mIn m⟩
theorem LG.start {W : World} {g k : Nat} {c : Int} {v u : Value} {o : Int} {L S : List Int} (hL : IntsB W g (g + 1) v L) (hS : IntsB W k (k + 1) u S) (fL : FZ W v L) (fS : FZ W u S) : LG (W.alloc (.cells #[.int .i64 c, v, u, .int .i64 o] 29)) W.heap.size g k c v u o L S := by
  have x : Ext W (W.alloc (.cells #[.int .i64 c, v, u, .int .i64 o] 29)) := (Ext.refl W).alloc _ _
  have n := fun j => new_cell W #[.int .i64 c, v, u, .int .i64 o] 29 W.heap.size rfl j
  exact ⟨n 0, n 1, n 2, n 3, hL.keep x.bl, hS.keep x.bl, fL.keep x.bl, fS.keep x.bl⟩

/-- A view that is handed on, at block bx, its lists at b and k. -/
structure LX (W : World) (bx b k : Nat) (off : Int) (xs ss : List Int) : Prop where
  c0 : W.cell? ⟨bx, 0, none⟩ = some (.slice (some ⟨b, 0, none⟩) xs.length xs.length)
  c1 : W.cell? ⟨bx, 1, none⟩ = some (.slice (some ⟨k, 0, none⟩) ss.length ss.length)
  c2 : W.cell? ⟨bx, 2, none⟩ = some (.int .i64 off)
  hL : IntsB W b (b + 1) (.slice (some ⟨b, 0, none⟩) xs.length xs.length) xs
  hS : IntsB W k (k + 1) (.slice (some ⟨k, 0, none⟩) ss.length ss.length) ss
  fL : FZ W (.slice (some ⟨b, 0, none⟩) xs.length xs.length) xs
  fS : FZ W (.slice (some ⟨k, 0, none⟩) ss.length ss.length) ss
theorem LX.keep {W W' : World} {bx b k : Nat} {off : Int} {xs ss : List Int} (h : LX W bx b k off xs ss) (x : Bel W W') : LX W' bx b k off xs ss :=
  ⟨x.box h.c0, x.box h.c1, x.box h.c2, h.hL.keep x, h.hS.keep x, h.fL.keep x, h.fS.keep x⟩
theorem LX.start {A W : World} {b k : Nat} {off : Int} {xs ss : List Int} (x : Ext A W) (hb : A.heap.size ≤ b) (hk : b < k) (hs : k < W.heap.size) (rb : Row W b 0 xs) (rk : Row W k 0 ss) :
    LX (W.alloc (.cells #[.slice (some ⟨b, 0, none⟩) xs.length xs.length, .slice (some ⟨k, 0, none⟩) ss.length ss.length, .int .i64 off] 25)) W.heap.size b k off xs ss := by
  have y : Ext W (W.alloc (.cells #[.slice (some ⟨b, 0, none⟩) xs.length xs.length, .slice (some ⟨k, 0, none⟩) ss.length ss.length, .int .i64 off] 25)) := (Ext.refl W).alloc _ _
  have n := fun j => new_cell W #[.slice (some ⟨b, 0, none⟩) xs.length xs.length, .slice (some ⟨k, 0, none⟩) ss.length ss.length, .int .i64 off] 25 W.heap.size rfl j
  exact ⟨n 0, n 1, n 2, (rowB rb rfl).keep y.bl, (rowB rk rfl).keep y.bl, FZ.keep (Or.inr ⟨b, 0, _, _, rfl, by omega, fun o => x.unfrozen hb o⟩) y.bl, FZ.keep (Or.inr ⟨k, 0, _, _, rfl, hs, fun o => x.unfrozen (by omega) o⟩) y.bl⟩

/-- A list that is handed on, at block d. -/
structure LP (W : World) (d : Nat) (ys : List Int) : Prop where
  hP : IntsB W d (d + 1) (.slice (some ⟨d, 0, none⟩) ys.length ys.length) ys
  fP : FZ W (.slice (some ⟨d, 0, none⟩) ys.length ys.length) ys
theorem LP.keep {W W' : World} {d : Nat} {ys : List Int} (h : LP W d ys) (x : Bel W W') : LP W' d ys := ⟨h.hP.keep x, h.fP.keep x⟩
theorem LP.mIn {W W' : World} {d lo hi : Nat} {ys : List Int} (h : LP W d ys) (m : MIn lo hi W W') (hd : hi ≤ d) : LP W' d ys := ⟨h.hP.mIn m (by omega), h.fP.mIn m⟩
theorem LP.start {A W : World} {ys : List Int} (x : Ext A W) (hs : A.heap.size < W.heap.size) (r : Row W A.heap.size 0 ys) : LP W A.heap.size ys :=
  ⟨rowB r rfl, Or.inr ⟨A.heap.size, 0, _, _, rfl, hs, fun o => x.unfrozen (Nat.le_refl _) o⟩⟩
end Go.Proofs.Ytanbgpmbccianaa
namespace Go.Proofs.Ytanbgpmbccianaa
open Go.ChangeShapes Go.RowKit
set_option linter.unusedSimpArgs false
set_option linter.unusedVariables false

def sLo (step : Int) : Int := if step < 0 then -1 else 0
def sHi (n step : Int) : Int := if step < 0 then n - 1 else n
/-- An end of a slice put right. -/
def rightL (x n step : Int) : Int := if x < 0 then max (x + n) (sLo step) else min x (sHi n step)
/-- How many are taken. -/
def cntS (a b step : Int) : Int := if step < 0 then (if a - b ≤ 0 then 0 else (a - b + -step - 1) / -step) else (if b - a ≤ 0 then 0 else (b - a + step - 1) / step)

theorem rightL_bd {x n step : Int} (hn : 0 ≤ n ∧ n ≤ 4096) (hs : step ≠ 0) (hx : -1000000 ≤ x ∧ x ≤ 1000000) : sLo step ≤ rightL x n step ∧ rightL x n step ≤ sHi n step := by
  unfold rightL sLo sHi
  split <;> split <;> omega

theorem cnt_pos {d s : Int} (hd : 0 < d) (hs : 0 < s) : 0 < (d + s - 1) / s ∧ (d + s - 1) / s ≤ d := by
  constructor
  · have : 1 ≤ (d + s - 1) / s := by rw [Int.le_ediv_iff_mul_le hs]; omega
    omega
  · have : (d + s - 1) / s < d + 1 := by
      rw [Int.ediv_lt_iff_lt_mul hs]
      have h1 : d * 1 ≤ d * s := Int.mul_le_mul_of_nonneg_left (by omega) (by omega)
      rw [Int.add_mul]
      omega
    omega
theorem cnt_lt {d s : Int} (hs : 0 < s) (k : Int) : k < (d + s - 1) / s ↔ k * s < d := by
  have h : k < (d + s - 1) / s ↔ k + 1 ≤ (d + s - 1) / s := by omega
  rw [h, Int.le_ediv_iff_mul_le hs, Int.add_mul]
  omega

theorem cntS_bd (a b step n : Int) (hs : step ≠ 0) (ha : sLo step ≤ a ∧ a ≤ sHi n step) (hb : sLo step ≤ b ∧ b ≤ sHi n step) (hn : 0 ≤ n) : 0 ≤ cntS a b step ∧ cntS a b step ≤ n := by
  unfold sLo sHi at *
  unfold cntS
  split
  · next h =>
    rw [if_pos h] at ha hb
    rw [if_pos h] at ha hb
    split
    · omega
    · have := cnt_pos (d := a - b) (s := -step) (by omega) (by omega)
      omega
  · next h =>
    rw [if_neg h] at ha hb
    rw [if_neg h] at ha hb
    split
    · omega
    · have := cnt_pos (d := b - a) (s := step) (by omega) (by omega)
      omega

/-- The loop goes on exactly so long. -/
theorem cntS_lt (a b step : Int) (hs : step ≠ 0) (k : Nat) : ((0 < step ∧ a + k * step < b) ∨ (step < 0 ∧ b < a + k * step)) ↔ (k : Int) < cntS a b step := by
  unfold cntS
  by_cases h : step < 0
  · rw [if_pos h]
    have hm : (k : Int) * -step = -(k * step) := by rw [Int.mul_neg]
    by_cases hd : a - b ≤ 0
    · rw [if_pos hd]
      have h0 : 0 ≤ (k : Int) * -step := Int.mul_nonneg (by omega) (by omega)
      omega
    · rw [if_neg hd, cnt_lt (by omega), hm]
      omega
  · rw [if_neg h]
    by_cases hd : b - a ≤ 0
    · rw [if_pos hd]
      have h0 : 0 ≤ (k : Int) * step := Int.mul_nonneg (by omega) (by omega)
      omega
    · rw [if_neg hd, cnt_lt (by omega)]
      omega

def okStep (x : Int) : Bool := decide (-1000000 ≤ x ∧ x ≤ 1000000)

theorem retI {a b : Int} (h : a = b) : Ending.returned (Value.int .i64 a) = Ending.returned (Value.int .i64 b) := by rw [h]

set_option maxRecDepth 100000 in
set_option maxHeartbeats 1000000 in
theorem l2Right_any (x n lo hi : Int) (hn : 0 ≤ n ∧ n ≤ 4096) (hx : -1000000 ≤ x ∧ x ≤ 1000000) (w : World) :
    Calls Try.prog 51 #[.int .i64 x, .int .i64 n, .int .i64 lo, .int .i64 hi] w fun e w' => e = .returned (.int .i64 (if x < 0 then max (x + n) lo else min x hi)) ∧ w' = w := by
  by_cases h : x < 0
  · by_cases h2 : x + n < lo
    · go_enter Try.func51, Try.ntmps51
      go_wp2
      go_ret
      exact ⟨retI (by (try rw [if_pos h]); omega), rfl⟩
    · go_enter Try.func51, Try.ntmps51
      go_wp2
      go_ret
      exact ⟨retI (by (try rw [if_pos h]); omega), rfl⟩
  · by_cases h2 : hi < x
    · go_enter Try.func51, Try.ntmps51
      go_wp2
      go_ret
      exact ⟨retI (by (try rw [if_neg h]); omega), rfl⟩
    · go_enter Try.func51, Try.ntmps51
      go_wp2
      go_ret
      exact ⟨retI (by (try rw [if_neg h]); omega), rfl⟩

end Go.Proofs.Ytanbgpmbccianaa
namespace Go.Proofs.Ytanbgpmbccianaa
open Go.ChangeShapes Go.RowKit
set_option linter.unusedSimpArgs false
set_option linter.unusedVariables false

theorem set_getD (xs : List Int) (a : Nat) (c : Int) (ha : a < xs.length) (j : Nat) : (xs.set a c).getD j 0 = if a = j then c else xs.getD j 0 := by
  by_cases h : a = j
  · subst h; rw [if_pos rfl]; simp [List.getD_eq_getElem?_getD, ha]
  · rw [if_neg h]; simp [List.getD_eq_getElem?_getD, List.getElem?_set, h]

def slS (xs ss : List Int) (a : Nat) (cnt step : Int) : List Int := if prod (xs.set a cnt) = 0 then ss else if 2 ≤ cnt then ss.set a (ss.getD a 0 * step) else ss
def slO (xs ss : List Int) (a : Nat) (cnt first off : Int) : Int := if prod (xs.set a cnt) = 0 then off else off + first * ss.getD a 0
theorem slS_len (xs ss : List Int) (a : Nat) (cnt step : Int) : (slS xs ss a cnt step).length = ss.length := by
  unfold slS
  split
  · rfl
  · split <;> simp

/-- The world of 'sliced': f at w.heap.size, the answer behind it. -/
structure FW (w W : World) (n : Int) (xs ss : List Int) (off : Int) : Prop where
  c0 : W.cell? ⟨w.heap.size, 0, none⟩ = some (.int .i64 n)
  l : ∀ j, j < 4 → W.cell? ⟨w.heap.size, 1 + j, none⟩ = some (.int .i64 (xs.getD j 0))
  s : ∀ j, j < 4 → W.cell? ⟨w.heap.size, 5 + j, none⟩ = some (.int .i64 (ss.getD j 0))
  c9 : W.cell? ⟨w.heap.size, 9, none⟩ = some (.int .i64 off)
  r : ∀ j, j < 10 → W.cell? ⟨w.heap.size + 1, j, none⟩ = some (.int .i64 0)
  ex : Ext w W
theorem FW.keep {w W W' : World} {n : Int} {xs ss : List Int} {off : Int} (h : FW w W n xs ss off) (x : Ext W W') : FW w W' n xs ss off :=
  ⟨x.box h.c0, fun j hj => x.box (h.l j hj), fun j hj => x.box (h.s j hj), x.box h.c9, fun j hj => x.box (h.r j hj), h.ex.trans x⟩
theorem FW.setL {w W : World} {n : Int} {xs ss : List Int} {off : Int} (h : FW w W n xs ss off) (a : Nat) (ha : a < xs.length) (h4 : a < 4) (c : Int) : FW w (W.setCell ⟨w.heap.size, 1 + a, none⟩ (.int .i64 c)) n (xs.set a c) ss off := by
  refine ⟨near (by omega) h.c0, fun j hj => ?_, fun j hj => near (by omega) (h.s j hj), near (by omega) h.c9, fun j hj => far1 (by omega) (h.r j hj), h.ex.setCell (Nat.le_refl _) _⟩
  rw [set_getD xs a c ha j]
  by_cases e : a = j
  · subst e; rw [if_pos rfl]; exact World.cell?_setCell_same _ _ _ (h.l a hj)
  · rw [if_neg e]; exact near (by omega) (h.l j hj)
theorem FW.setS {w W : World} {n : Int} {xs ss : List Int} {off : Int} (h : FW w W n xs ss off) (a : Nat) (ha : a < ss.length) (h4 : a < 4) (c : Int) : FW w (W.setCell ⟨w.heap.size, 5 + a, none⟩ (.int .i64 c)) n xs (ss.set a c) off := by
  refine ⟨near (by omega) h.c0, fun j hj => near (by omega) (h.l j hj), fun j hj => ?_, near (by omega) h.c9, fun j hj => far1 (by omega) (h.r j hj), h.ex.setCell (Nat.le_refl _) _⟩
  rw [set_getD ss a c ha j]
  by_cases e : a = j
  · subst e; rw [if_pos rfl]; exact World.cell?_setCell_same _ _ _ (h.s a hj)
  · rw [if_neg e]; exact near (by omega) (h.s j hj)
theorem FW.setO {w W : World} {n : Int} {xs ss : List Int} {off : Int} (h : FW w W n xs ss off) (o : Int) : FW w (W.setCell ⟨w.heap.size, 9, none⟩ (.int .i64 o)) n xs ss o :=
  ⟨near (by omega) h.c0, fun j hj => near (by omega) (h.l j hj), fun j hj => near (by omega) (h.s j hj), World.cell?_setCell_same _ _ _ h.c9, fun j hj => far1 (by omega) (h.r j hj), h.ex.setCell (Nat.le_refl _) _⟩

/-- The ten cells of the answer. -/
theorem chain10 {W : World} {R : Nat} (h : ∀ j, j < 10 → W.cell? ⟨R, j, none⟩ = some (.int .i64 0)) (v0 v1 v2 v3 v4 v5 v6 v7 v8 v9 : Value) :
    let C := (((((((((W.setCell ⟨R, 0, none⟩ v0).setCell ⟨R, 1, none⟩ v1).setCell ⟨R, 2, none⟩ v2).setCell ⟨R, 3, none⟩ v3).setCell ⟨R, 4, none⟩ v4).setCell ⟨R, 5, none⟩ v5).setCell ⟨R, 6, none⟩ v6).setCell ⟨R, 7, none⟩ v7).setCell ⟨R, 8, none⟩ v8).setCell ⟨R, 9, none⟩ v9
    C.cell? ⟨R, 0, none⟩ = some v0 ∧ C.cell? ⟨R, 1, none⟩ = some v1 ∧ C.cell? ⟨R, 2, none⟩ = some v2 ∧ C.cell? ⟨R, 3, none⟩ = some v3 ∧ C.cell? ⟨R, 4, none⟩ = some v4 ∧ C.cell? ⟨R, 5, none⟩ = some v5 ∧ C.cell? ⟨R, 6, none⟩ = some v6 ∧ C.cell? ⟨R, 7, none⟩ = some v7 ∧ C.cell? ⟨R, 8, none⟩ = some v8 ∧ C.cell? ⟨R, 9, none⟩ = some v9 := by
  intro C
  have Z := zt (zt (zt (zt (zt (zt (zt (zt (zt (zt (f := fun _ => (.int .i64 0 : Value)) h 0 v0) 1 v1) 2 v2) 3 v3) 4 v4) 5 v5) 6 v6) 7 v7) 8 v8) 9 v9
  exact ⟨(Z 0 (by omega)).trans rfl, (Z 1 (by omega)).trans rfl, (Z 2 (by omega)).trans rfl, (Z 3 (by omega)).trans rfl, (Z 4 (by omega)).trans rfl, (Z 5 (by omega)).trans rfl, (Z 6 (by omega)).trans rfl, (Z 7 (by omega)).trans rfl, (Z 8 (by omega)).trans rfl, (Z 9 (by omega)).trans rfl⟩

def SlOk (w : World) (xs ss : List Int) (off : Int) (e : Ending) (w' : World) : Prop := e = .returned (.agg (vw xs ss off)) ∧ Ext w w'

end Go.Proofs.Ytanbgpmbccianaa
namespace Go.Proofs.Ytanbgpmbccianaa
open Go.ChangeShapes Go.RowKit
set_option linter.unusedSimpArgs false
set_option linter.unusedVariables false

/-- The world of the loop: f at w.heap.size, the answer behind it, out at B; the merged axes lie the fastest first. -/
structure MW (w W : World) (B : Nat) (xs ss : List Int) (off : Int) (M S : List Int) : Prop where
  fl : ∀ j, j < 4 → W.cell? ⟨w.heap.size, 1 + j, none⟩ = some (.int .i64 (xs.getD j 0))
  fs : ∀ j, j < 4 → W.cell? ⟨w.heap.size, 5 + j, none⟩ = some (.int .i64 (ss.getD j 0))
  r : ∀ j, j < 10 → W.cell? ⟨w.heap.size + 1, j, none⟩ = some (.int .i64 0)
  o0 : W.cell? ⟨B, 0, none⟩ = some (.int .i64 M.length)
  ol : ∀ j, j < 4 → W.cell? ⟨B, 1 + j, none⟩ = some (.int .i64 (M.getD j 0))
  os : ∀ j, j < 4 → W.cell? ⟨B, 5 + j, none⟩ = some (.int .i64 (S.getD j 0))
  o9 : W.cell? ⟨B, 9, none⟩ = some (.int .i64 off)
  ex : Ext w W
  hB : w.heap.size + 1 < B
theorem MW.drew {w W : World} {B : Nat} {xs ss : List Int} {off : Int} {M S : List Int} (h : MW w W B xs ss off M S) : MW w W.drew B xs ss off M S :=
  ⟨h.fl, h.fs, h.r, h.o0, h.ol, h.os, h.o9, h.ex.drew, h.hB⟩
theorem snoc_getD (M : List Int) (x : Int) (j : Nat) : (M ++ [x]).getD j 0 = if j = M.length then x else M.getD j 0 := by
  by_cases h : j = M.length
  · subst h; rw [if_pos rfl]; simp [List.getD_eq_getElem?_getD]
  · rw [if_neg h]
    by_cases h2 : j < M.length
    · simp [List.getD_eq_getElem?_getD, List.getElem?_append, h2]
    · have h3 : M.length < j := by omega
      rw [List.getD_eq_getElem?_getD, List.getD_eq_getElem?_getD, List.getElem?_eq_none (by simp; omega), List.getElem?_eq_none (by omega)]
/-- The last merged axis grows. -/
theorem MW.grow {w W : World} {B : Nat} {xs ss : List Int} {off : Int} {M S : List Int} (h : MW w W B xs ss off M S) (a : Nat) (ha : a < M.length) (h4 : a < 4) (c : Int) : MW w (W.setCell ⟨B, 1 + a, none⟩ (.int .i64 c)) B xs ss off (M.set a c) S := by
  have hB := h.hB
  have m : Mut B W (W.setCell ⟨B, 1 + a, none⟩ (.int .i64 c)) := (Mut.refl _ _).setCell _ _
  refine ⟨fun j hj => m.box (by omega) (h.fl j hj), fun j hj => m.box (by omega) (h.fs j hj), fun j hj => m.box (by omega) (h.r j hj), ?_, fun j hj => ?_, fun j hj => near (by omega) (h.os j hj), near (by omega) h.o9, h.ex.setCell (by show w.heap.size ≤ B; omega) _, hB⟩
  · rw [List.length_set]; exact near (by omega) h.o0
  · rw [set_getD M a c ha j]
    by_cases e : a = j
    · subst e; rw [if_pos rfl]; exact World.cell?_setCell_same _ _ _ (h.ol a hj)
    · rw [if_neg e]; exact near (by omega) (h.ol j hj)
/-- One merged axis more. -/
theorem MW.more {w W : World} {B : Nat} {xs ss : List Int} {off : Int} {M S : List Int} (h : MW w W B xs ss off M S) (hl : S.length = M.length) (h4 : M.length < 4) (x y : Int) :
    MW w (((W.setCell ⟨B, 1 + M.length, none⟩ (.int .i64 x)).setCell ⟨B, 5 + M.length, none⟩ (.int .i64 y)).setCell ⟨B, 0, none⟩ (.int .i64 ((M.length : Int) + 1))) B xs ss off (M ++ [x]) (S ++ [y]) := by
  have hB := h.hB
  have m : Mut B W (((W.setCell ⟨B, 1 + M.length, none⟩ (.int .i64 x)).setCell ⟨B, 5 + M.length, none⟩ (.int .i64 y)).setCell ⟨B, 0, none⟩ (.int .i64 ((M.length : Int) + 1))) := (((Mut.refl _ _).setCell _ _).setCell _ _).setCell _ _
  refine ⟨fun j hj => m.box (by omega) (h.fl j hj), fun j hj => m.box (by omega) (h.fs j hj), fun j hj => m.box (by omega) (h.r j hj), ?_, fun j hj => ?_, fun j hj => ?_, near (by omega) (near (by omega) (near (by omega) h.o9)), ((h.ex.setCell (by show w.heap.size ≤ B; omega) _).setCell (by show w.heap.size ≤ B; omega) _).setCell (by show w.heap.size ≤ B; omega) _, hB⟩
  · rw [List.length_append]
    exact World.cell?_setCell_same _ _ _ (near (by omega) (near (by omega) h.o0))
  · rw [snoc_getD]
    refine near (by omega) (near (by omega) ?_)
    by_cases e : j = M.length
    · subst e; rw [if_pos rfl]; exact World.cell?_setCell_same _ _ _ (h.ol _ hj)
    · rw [if_neg e]; exact near (by omega) (h.ol j hj)
  · rw [snoc_getD, hl]
    refine near (by omega) ?_
    by_cases e : j = M.length
    · subst e; rw [if_pos rfl]; exact World.cell?_setCell_same _ _ _ (near (by omega) (h.os _ hj))
    · rw [if_neg e]; exact near (by omega) (near (by omega) (h.os j hj))

/-- What is merged when k axes are gone through. -/
def mgL (xs ss : List Int) (k : Nat) : List Int := (mrg (xs.drop (xs.length - k)) (ss.drop (xs.length - k))).1
def mgS (xs ss : List Int) (k : Nat) : List Int := (mrg (xs.drop (xs.length - k)) (ss.drop (xs.length - k))).2
theorem mg_step (xs ss : List Int) (k : Nat) (hl : ss.length = xs.length) (hk : k < xs.length) : (mgL xs ss (k + 1), mgS xs ss (k + 1)) = mrg1 (xs.getD (xs.length - 1 - k) 0) (ss.getD (xs.length - 1 - k) 0) (mgL xs ss k) (mgS xs ss k) := by
  unfold mgL mgS
  have e : xs.length - (k + 1) = xs.length - 1 - k := by omega
  have e2 : xs.length - k = xs.length - 1 - k + 1 := by omega
  have d1 : xs.drop (xs.length - 1 - k) = xs.getD (xs.length - 1 - k) 0 :: xs.drop (xs.length - 1 - k + 1) := by
    rw [List.drop_eq_getElem_cons (by omega), List.getD_eq_getElem?_getD, List.getElem?_eq_getElem (by omega)]; rfl
  have d2 : ss.drop (xs.length - 1 - k) = ss.getD (xs.length - 1 - k) 0 :: ss.drop (xs.length - 1 - k + 1) := by
    rw [List.drop_eq_getElem_cons (by omega), List.getD_eq_getElem?_getD, List.getElem?_eq_getElem (by omega)]; rfl
  rw [e, e2, d1, d2]
  rfl
theorem mg_len (xs ss : List Int) (k : Nat) (hl : ss.length = xs.length) : (mgS xs ss k).length = (mgL xs ss k).length := (mrg_len _ _ (by simp; omega)).symm
theorem mg_zero (xs ss : List Int) (hl : ss.length = xs.length) : mgL xs ss 0 = [] ∧ mgS xs ss 0 = [] := by
  unfold mgL mgS
  rw [Nat.sub_zero, List.drop_length, List.drop_of_length_le (by omega)]
  exact ⟨rfl, rfl⟩
theorem mg_le (xs ss : List Int) (hl : ss.length = xs.length) : ∀ k, k ≤ xs.length → (mgL xs ss k).length ≤ k
  | 0, _ => by rw [(mg_zero xs ss hl).1]; simp
  | k + 1, hk => by
    have := mg_le xs ss hl k (by omega)
    have e := congrArg Prod.fst (mg_step xs ss k hl (by omega))
    rw [show mgL xs ss (k + 1) = _ from e]
    have := mrg1_le (xs.getD (xs.length - 1 - k) 0) (ss.getD (xs.length - 1 - k) 0) (mgL xs ss k) (mgS xs ss k) (mg_len xs ss k hl).symm
    omega
def MRel (w : World) (B : Nat) (xs ss : List Int) (off : Int) (i : Value) (W : World) : Prop := ∃ k : Nat, i = .int .i64 ((xs.length : Int) - 1 - k) ∧ k ≤ xs.length ∧ MW w W B xs ss off (mgL xs ss k).reverse (mgS xs ss k).reverse

theorem bd_mul {k : Nat} {m n : Int} (hk : k < 4) (hm : 0 ≤ m ∧ m ≤ bd k) (hn : 0 ≤ n ∧ n ≤ 4096) : 0 ≤ m * n ∧ m * n ≤ bd (k + 1) := by
  refine ⟨Int.mul_nonneg hm.1 hn.1, ?_⟩
  have h1 : m * n ≤ bd k * 4096 := Int.mul_le_mul hm.2 hn.2 hn.1 (Int.le_trans hm.1 hm.2)
  have h2 : bd k * 4096 = bd (k + 1) := by
    obtain rfl | rfl | rfl | rfl : k = 0 ∨ k = 1 ∨ k = 2 ∨ k = 3 := by omega
    all_goals decide
  omega
theorem bd_up (k : Nat) (hk : k < 4) : bd k ≤ bd (k + 1) ∧ 4096 ≤ bd (k + 1) := by
  obtain rfl | rfl | rfl | rfl : k = 0 ∨ k = 1 ∨ k = 2 ∨ k = 3 := by omega
  all_goals decide
theorem mrg1_bd {k : Nat} {n s : Int} (hk : k < 4) (hn : 0 ≤ n ∧ n ≤ 4096) (hs : -4096 ≤ s ∧ s ≤ 4096) : ∀ (ns ts : List Int), ns.length = ts.length → (∀ m ∈ ns, 0 ≤ m ∧ m ≤ bd k) → (∀ t ∈ ts, -4096 ≤ t ∧ t ≤ 4096) →
    (∀ m ∈ (mrg1 n s ns ts).1, 0 ≤ m ∧ m ≤ bd (k + 1)) ∧ (∀ t ∈ (mrg1 n s ns ts).2, -4096 ≤ t ∧ t ≤ 4096)
  | [], [], _, _, _ => by
    have := bd_up k hk
    rw [mrg1_nil]
    split
    · simp
    · simp; omega
  | m :: ns, t :: ts, _, h1, h2 => by
    have hb := bd_up k hk
    have up : ∀ x, 0 ≤ x ∧ x ≤ bd k → 0 ≤ x ∧ x ≤ bd (k + 1) := fun x hx => by omega
    have hm := h1 m (List.mem_cons_self ..)
    have hr : ∀ x ∈ ns, 0 ≤ x ∧ x ≤ bd (k + 1) := fun x hx => up x (h1 x (List.mem_cons_of_mem _ hx))
    rw [mrg1_cons]
    split
    · exact ⟨fun x hx => up x (h1 x hx), h2⟩
    · split
      · refine ⟨fun x hx => ?_, h2⟩
        rcases List.mem_cons.1 hx with rfl | hx
        · exact bd_mul hk hm hn
        · exact hr x hx
      · refine ⟨fun x hx => ?_, fun x hx => ?_⟩
        · rcases List.mem_cons.1 hx with rfl | hx
          · omega
          · exact up x (h1 x hx)
        · rcases List.mem_cons.1 hx with rfl | hx
          · exact hs
          · exact h2 x hx
  | [], _ :: _, h, _, _ => by simp at h
  | _ :: _, [], h, _, _ => by simp at h
theorem mg_bd (xs ss : List Int) (h4 : xs.length ≤ 4) (hl : ss.length = xs.length) (hr : InR xs xs.length) (hss : InS ss ss.length) : ∀ k, k ≤ xs.length → (∀ m ∈ mgL xs ss k, 0 ≤ m ∧ m ≤ bd k) ∧ (∀ t ∈ mgS xs ss k, -4096 ≤ t ∧ t ≤ 4096)
  | 0, _ => by rw [(mg_zero xs ss hl).1, (mg_zero xs ss hl).2]; simp
  | k + 1, hk => by
    have ih := mg_bd xs ss h4 hl hr hss k (by omega)
    have e := mg_step xs ss k hl (by omega)
    have e1 := congrArg Prod.fst e
    have e2 := congrArg Prod.snd e
    rw [show mgL xs ss (k + 1) = _ from e1, show mgS xs ss (k + 1) = _ from e2]
    exact mrg1_bd (by omega) (hr _ (by omega)) (hss _ (by omega)) _ _ (mg_len xs ss k hl).symm ih.1 ih.2
theorem rev_last (m : Int) (ns : List Int) : (m :: ns).reverse.getD ns.length 0 = m := by
  rw [List.reverse_cons, snoc_getD, if_pos (by simp)]
theorem rev_set (m c : Int) (ns : List Int) : (m :: ns).reverse.set ns.length c = (c :: ns).reverse := by
  rw [List.reverse_cons, List.reverse_cons, List.set_append_right _ _ (by simp)]
  simp
theorem mrel_step {w W : World} {B : Nat} {xs ss : List Int} {off : Int} {k : Nat} (hk : k < xs.length) {L S : List Int} (e : (mgL xs ss (k + 1), mgS xs ss (k + 1)) = (L, S)) (h : MW w W B xs ss off L.reverse S.reverse) {i : Int} (hi : i = (xs.length : Int) - 1 - ((k + 1 : Nat) : Int)) : MRel w B xs ss off (.int .i64 i) W := by
  have e1 : mgL xs ss (k + 1) = L := congrArg Prod.fst e
  have e2 : mgS xs ss (k + 1) = S := congrArg Prod.snd e
  exact ⟨k + 1, by rw [hi], by omega, by rw [e1, e2]; exact h⟩

theorem mrg1_one (s : Int) : ∀ (ns ts : List Int), mrg1 1 s ns ts = (ns, ts)
  | [], [] => rfl
  | [], _ :: _ => rfl
  | _ :: _, [] => rfl
  | _ :: _, _ :: _ => rfl

set_option maxRecDepth 100000 in
set_option maxHeartbeats 4000000 in
theorem merged_any (w : World) (xs ss : List Int) (off : Int) (h4 : xs.length ≤ 4) (hl : ss.length = xs.length) (hr : InR xs xs.length) (hss : InS ss ss.length) :
    Calls Try.prog 38 #[.agg (vw xs ss off)] w fun e w' => e = .returned (.agg (vw (mrg xs ss).1.reverse (mrg xs ss).2.reverse off)) ∧ Ext w w' := by
  have x0 : Ext w ((w.alloc (.cells (vw xs ss off) 58)).alloc (.cells #[.int .i64 0, .int .i64 0, .int .i64 0, .int .i64 0, .int .i64 0, .int .i64 0, .int .i64 0, .int .i64 0, .int .i64 0, .int .i64 0] 58)) := ((Ext.refl w).alloc _ _).alloc _ _
  have y1 : Ext (w.alloc (.cells (vw xs ss off) 58)) ((w.alloc (.cells (vw xs ss off) 58)).alloc (.cells #[.int .i64 0, .int .i64 0, .int .i64 0, .int .i64 0, .int .i64 0, .int .i64 0, .int .i64 0, .int .i64 0, .int .i64 0, .int .i64 0] 58)) := (Ext.refl _).alloc _ _
  have n1 := fun j => new_cell w (vw xs ss off) 58 w.heap.size rfl j
  have n2 := fun j => new_cell (w.alloc (.cells (vw xs ss off) 58)) #[.int .i64 0, .int .i64 0, .int .i64 0, .int .i64 0, .int .i64 0, .int .i64 0, .int .i64 0, .int .i64 0, .int .i64 0, .int .i64 0] 58 (w.heap.size + 1) (by simp) j
  have S0 : Hid (FW w ((w.alloc (.cells (vw xs ss off) 58)).alloc (.cells #[.int .i64 0, .int .i64 0, .int .i64 0, .int .i64 0, .int .i64 0, .int .i64 0, .int .i64 0, .int .i64 0, .int .i64 0, .int .i64 0] 58)) xs.length xs ss off) := by
    refine ⟨y1.box (n1 0), fun j hj => ?_, fun j hj => ?_, y1.box (n1 9), fun j hj => ?_, x0⟩
    · obtain rfl | rfl | rfl | rfl : j = 0 ∨ j = 1 ∨ j = 2 ∨ j = 3 := by omega
      · exact y1.box (n1 1)
      · exact y1.box (n1 2)
      · exact y1.box (n1 3)
      · exact y1.box (n1 4)
    · obtain rfl | rfl | rfl | rfl : j = 0 ∨ j = 1 ∨ j = 2 ∨ j = 3 := by omega
      · exact y1.box (n1 5)
      · exact y1.box (n1 6)
      · exact y1.box (n1 7)
      · exact y1.box (n1 8)
    · obtain rfl | rfl | rfl | rfl | rfl | rfl | rfl | rfl | rfl | rfl : j = 0 ∨ j = 1 ∨ j = 2 ∨ j = 3 ∨ j = 4 ∨ j = 5 ∨ j = 6 ∨ j = 7 ∨ j = 8 ∨ j = 9 := by omega
      all_goals exact n2 _
  have sz0 : Hid (((w.alloc (.cells (vw xs ss off) 58)).alloc (.cells #[.int .i64 0, .int .i64 0, .int .i64 0, .int .i64 0, .int .i64 0, .int .i64 0, .int .i64 0, .int .i64 0, .int .i64 0, .int .i64 0] 58)).heap.size = w.heap.size + 1 + 1) := by show ((w.alloc (.cells (vw xs ss off) 58)).alloc (.cells #[.int .i64 0, .int .i64 0, .int .i64 0, .int .i64 0, .int .i64 0, .int .i64 0, .int .i64 0, .int .i64 0, .int .i64 0, .int .i64 0] 58)).heap.size = _; simp
  clear x0 y1 n1 n2
  generalize hans : (fun (e : Ending) (w' : World) => e = .returned (.agg (vw (mrg xs ss).1.reverse (mrg xs ss).2.reverse off)) ∧ Ext w w') = ANS
  have Hans := hide hans
  clear hans
  have f0 := S0.out.c0
  have f9 := S0.out.c9
  unfold vw at S0 f0 f9 sz0 ⊢
  generalize xs.getD 0 0 = e0 at S0 f0 f9 sz0 ⊢
  generalize xs.getD 1 0 = e1 at S0 f0 f9 sz0 ⊢
  generalize xs.getD 2 0 = e2 at S0 f0 f9 sz0 ⊢
  generalize xs.getD 3 0 = e3 at S0 f0 f9 sz0 ⊢
  generalize ss.getD 0 0 = e4 at S0 f0 f9 sz0 ⊢
  generalize ss.getD 1 0 = e5 at S0 f0 f9 sz0 ⊢
  generalize ss.getD 2 0 = e6 at S0 f0 f9 sz0 ⊢
  generalize ss.getD 3 0 = e7 at S0 f0 f9 sz0 ⊢
  go_enter Try.func38, Try.ntmps38
  go_wp2_with fail
  generalize hV0 : ((w.alloc (.cells #[.int .i64 xs.length, .int .i64 e0, .int .i64 e1, .int .i64 e2, .int .i64 e3, .int .i64 e4, .int .i64 e5, .int .i64 e6, .int .i64 e7, .int .i64 off] 58)).alloc (.cells #[.int .i64 0, .int .i64 0, .int .i64 0, .int .i64 0, .int .i64 0, .int .i64 0, .int .i64 0, .int .i64 0, .int .i64 0, .int .i64 0] 58)) = V0 at S0 f0 f9 sz0 ⊢
  clear hV0
  have y3 : Ext V0 (V0.alloc (.cells #[.int .i64 0, .int .i64 0, .int .i64 0, .int .i64 0, .int .i64 0, .int .i64 0, .int .i64 0, .int .i64 0, .int .i64 0, .int .i64 off] 58)) := (Ext.refl V0).alloc _ _
  have n3 := fun j => new_cell V0 #[.int .i64 0, .int .i64 0, .int .i64 0, .int .i64 0, .int .i64 0, .int .i64 0, .int .i64 0, .int .i64 0, .int .i64 0, .int .i64 off] 58 (w.heap.size + 1 + 1) (by rw [sz0.out]) j
  have M0 : Hid (MW w (V0.alloc (.cells #[.int .i64 0, .int .i64 0, .int .i64 0, .int .i64 0, .int .i64 0, .int .i64 0, .int .i64 0, .int .i64 0, .int .i64 0, .int .i64 off] 58)) (w.heap.size + 1 + 1) xs ss off (mgL xs ss 0).reverse (mgS xs ss 0).reverse) := by
    rw [(mg_zero xs ss hl).1, (mg_zero xs ss hl).2]
    refine ⟨fun j hj => y3.box (S0.out.l j hj), fun j hj => y3.box (S0.out.s j hj), fun j hj => y3.box (S0.out.r j hj), n3 0, fun j hj => ?_, fun j hj => ?_, n3 9, S0.out.ex.trans y3, by omega⟩
    · obtain rfl | rfl | rfl | rfl : j = 0 ∨ j = 1 ∨ j = 2 ∨ j = 3 := by omega
      all_goals exact n3 _
    · obtain rfl | rfl | rfl | rfl : j = 0 ∨ j = 1 ∨ j = 2 ∨ j = 3 := by omega
      all_goals exact n3 _
  clear y3 n3 S0 f0 f9 sz0
  have Hl := hide hl
  have HR := hide hr
  have HSS := hide hss
  clear hl hr hss
  generalize hBB : w.heap.size + 1 + 1 = B at M0 ⊢
  have HBB : Hid (w.heap.size + 1 < B) := by show w.heap.size + 1 < B; omega
  clear hBB
  go_loopw [4] (fun i W => MRel w B xs ss off i W) (fun i _ => (intOf i + 1).toNat)
  case atStart => exact ⟨0, by simp, by omega, M0.out⟩
  case round =>
    obtain ⟨k, rfl, hk, hM⟩ := hrel
    have HM := hide hM
    clear hM
    by_cases hlt : k < xs.length
    · have hge : (0 : Int) ≤ (xs.length : Int) - 1 - k := by omega
      obtain ⟨ix, hix⟩ : ∃ ix : Nat, xs.length - 1 - k = ix := ⟨_, rfl⟩
      have hixi : (xs.length : Int) - 1 - k = (ix : Int) := by omega
      have hix4 : ix < 4 := by omega
      have hixx : ix < xs.length := by omega
      have hi0 : (0 : Int) ≤ (ix : Int) := Int.natCast_nonneg _
      have hi44 : (ix : Int) < 4 := by omega
      have qx := HM.out.fl ix hix4
      have qs := HM.out.fs ix hix4
      have hX := HR.out ix hixx
      have hY := HSS.out ix (by have := Hl.out; omega)
      have hbd := mg_bd xs ss h4 Hl.out HR.out HSS.out k (by omega)
      have hml := mg_le xs ss Hl.out k (by omega)
      have hsl := mg_len xs ss k Hl.out
      have hstep := hide (mg_step xs ss k Hl.out hlt)
      rw [hix] at hstep
      generalize mgL xs ss k = ML at HM hbd hml hsl hstep
      generalize mgS xs ss k = MS at HM hbd hsl hstep
      generalize xs.getD ix 0 = X at qx hX hstep
      generalize ss.getD ix 0 = Y at qs hY hstep
      have Hix := hide hix
      have Hixi := hide hixi
      clear hix
      rw [hixi]
      clear hixi hge
      have HMd := hide HM.out.drew
      generalize hMr : ML.reverse = M at HM HMd
      generalize hSr : MS.reverse = S at HM HMd
      have HMr := hide hMr
      have HSr := hide hSr
      have hMl : M.length = ML.length := by rw [← hMr]; simp
      have hSl : S.length = MS.length := by rw [← hSr]; simp
      have hM4 : M.length < 4 := by omega
      have hSM : S.length = M.length := by omega
      clear hMr hSr
      have o0 := HMd.out.o0
      by_cases hX1 : X = 1
      · subst hX1
        have hst2 := hide (hstep.out.trans (mrg1_one _ _ _))
        have HMl := hide hMl
        have HSl := hide hSl
        have Hs := hide hsl
        clear hMl hSl hsl hSM
        go_wp2_with fail
        go_region
        go_wp2
        go_roundw
        · exact mrel_step hlt hst2.out (by rw [HMr.out, HSr.out]; exact HMd.out) (by have := Hixi.out; omega)
        · first | (simp [intOf]; done) | (simp [intOf]; omega)
      have hXn : (X == 1) = false := by simp [hX1]
      cases ML with
      | nil =>
        obtain rfl : MS = [] := List.eq_nil_of_length_eq_zero hsl
        have e1 : M = [] := HMr.out.symm
        have e2 : S = [] := HSr.out.symm
        subst e1
        subst e2
        have hst2 := hide (hstep.out.trans ((mrg1_nil _ _).trans (if_neg hX1)))
        clear hsl hMl hSl hSM hM4 hml
        go_wp2_with fail
        go_region
        generalize hWW : wr.drew = WW at HMd o0 ⊢
        clear hWW HM qx qs
        go_wp2_with fail
        go_region
        have HMM := hide HMd.out.drew
        generalize hW2 : WW.drew = W2 at HMM ⊢
        clear hW2 HMd o0
        have o0 : W2.cell? ⟨B, 0, none⟩ = some (.int .i64 0) := HMM.out.o0
        have g1 : W2.cell? ⟨B, 1, none⟩ = some (.int .i64 0) := HMM.out.ol 0 (by omega)
        have g5 : W2.cell? ⟨B, 5, none⟩ = some (.int .i64 0) := HMM.out.os 0 (by omega)
        have g5b : (W2.setCell ⟨B, 1, none⟩ (.int .i64 X)).cell? ⟨B, 5, none⟩ = some (.int .i64 0) := near (by omega) g5
        have o0c : ((W2.setCell ⟨B, 1, none⟩ (.int .i64 X)).setCell ⟨B, 5, none⟩ (.int .i64 Y)).cell? ⟨B, 0, none⟩ = some (.int .i64 0) := near (by omega) (near (by omega) o0)
        have hbf := fun o => HMM.out.ex.unfrozen (b := B) (by have := HMM.out.hB; omega) o
        have HMore : Hid (MW w (((W2.setCell ⟨B, 1, none⟩ (.int .i64 X)).setCell ⟨B, 5, none⟩ (.int .i64 Y)).setCell ⟨B, 0, none⟩ (.int .i64 1)) B xs ss off [X] [Y]) := HMM.out.more rfl (by simp) X Y
        go_wp2
        go_roundw
        · exact mrel_step hlt hst2.out HMore.out (by have := Hixi.out; omega)
        · first | (simp [intOf]; done) | (simp [intOf]; omega)
      | cons m ns =>
        obtain ⟨t, ts, rfl⟩ : ∃ t ts, MS = t :: ts := by
          cases MS with
          | nil => simp at hsl
          | cons t ts => exact ⟨t, ts, rfl⟩
        have hqs : ts.length = ns.length := by simpa using hsl
        obtain ⟨q, hq⟩ : ∃ q : Nat, ns.length = q := ⟨_, rfl⟩
        have hMq : M.length = q + 1 := by rw [hMl]; simp [hq]
        have hSq : S.length = q + 1 := by omega
        have hm := hbd.1 m (List.mem_cons_self ..)
        have ht := hbd.2 t (List.mem_cons_self ..)
        have hb4 := bd_le k
        have mm : M.getD q 0 = m := by rw [← HMr.out, ← hq]; exact rev_last m ns
        have tt : S.getD q 0 = t := by rw [← HSr.out, ← hq, ← hqs]; exact rev_last t ts
        have hq4 : q < 4 := by omega
        have hq3 : q + 1 < 4 := by omega
        have hq0 : (0 : Int) ≤ (q : Int) := Int.natCast_nonneg _
        have hq44 : (q : Int) < 4 := by omega
        have c1 := HMd.out.ol q hq4
        have c5 := HMd.out.os q hq4
        rw [mm] at c1
        rw [tt] at c5
        have o0q : wr.drew.cell? ⟨B, 0, none⟩ = some (.int .i64 ((q : Int) + 1)) := by rw [o0, hMq]; simp
        have htm : -4096 * 281474976710656 ≤ t * m ∧ t * m ≤ 4096 * 281474976710656 := by
          have h1 := mul_between m (281474976710656 + 1) t (by omega) (by omega)
          have h2 : m * t = t * m := Int.mul_comm _ _
          omega
        have hwm : IntKind.i64.wrap (t * m) = t * m := by rw [IntKind.wrap_i64]; omega
        have hmX := bd_mul (k := k) (by omega) hm hX
        have hb5 := bd_le (k + 1)
        have hwp : IntKind.i64.wrap (m * X) = m * X := by rw [IntKind.wrap_i64]; omega
        have HMl := hide hMl
        have HMq := hide hMq
        have HSq := hide hSq
        have Hq := hide hq
        have Hqs := hide hqs
        have Hsl := hide hsl
        have HSM := hide hSM
        have HM4 := hide hM4
        clear hMl hMq hSq hq hqs hsl hSM hM4 hSl hml o0 mm tt hmX htm hb4 hb5 hm ht hbd
        go_wp2_with fail
        go_region
        generalize hWW : wr.drew = WW at HMd o0q c1 c5 ⊢
        clear hWW HM qx qs
        have SA : Hid ((fun w' => w'.cell? ⟨B, 5 + q, none⟩ = some (.int .i64 t) ∧ w'.cell? ⟨B, 1 + q, none⟩ = some (.int .i64 m)) WW.drew) := ⟨c5, c1⟩
        go_wp2_with fail
        go_region_held3 (fun w' => w'.cell? ⟨B, 5 + q, none⟩ = some (.int .i64 t) ∧ w'.cell? ⟨B, 1 + q, none⟩ = some (.int .i64 m)) (first | with_reducible exact SA.out | exact SA.out | fail) (fail)
        have HMM := hide HMd.out.drew
        generalize hW2 : WW.drew = W2 at HMM ⊢
        clear hW2 HMd o0q c1 c5 SA
        have c1 : W2.cell? ⟨B, 1 + q, none⟩ = some (.int .i64 m) := by
          have := HMM.out.ol q hq4
          rw [← HMr.out, ← Hq.out, rev_last] at this
          rw [← Hq.out]; exact this
        have hbf := fun o => HMM.out.ex.unfrozen (b := B) (by have := HMM.out.hB; omega) o
        by_cases hYt : Y = t * m
        · subst hYt
          have hst2 := hide (hstep.out.trans ((mrg1_cons _ _ _ _ _ _).trans ((if_neg hX1).trans (if_pos rfl))))
          have HG := hide (HMM.out.grow q (by have := HMq.out; omega) hq4 (m * X))
          go_wp2
          go_roundw
          · refine mrel_step hlt hst2.out ?_ (by have := Hixi.out; omega)
            have g := HG.out
            rw [← HMr.out, ← Hq.out, rev_set] at g
            rw [Hq.out] at g
            rw [HSr.out]
            exact g
          · first | (simp [intOf]; done) | (simp [intOf]; omega)
        · have hYn : (Y == t * m) = false := by simp [hYt]
          have hst2 := hide (hstep.out.trans ((mrg1_cons _ _ _ _ _ _).trans ((if_neg hX1).trans (if_neg hYt))))
          have g1 := HMM.out.ol (q + 1) hq3
          have g5 := HMM.out.os (q + 1) hq3
          have o0 : W2.cell? ⟨B, 0, none⟩ = some (.int .i64 ((q : Int) + 1)) := by rw [HMM.out.o0, HMq.out]; simp
          have HMore := HMM.out.more HSM.out HM4.out X Y
          rw [HMq.out, show (((q + 1 : Nat) : Int) + 1) = (q : Int) + 1 + 1 by omega] at HMore
          have g5b : (W2.setCell ⟨B, 1 + (q + 1), none⟩ (.int .i64 X)).cell? ⟨B, 5 + (q + 1), none⟩ = _ := near (by omega) g5
          have o0c : ((W2.setCell ⟨B, 1 + (q + 1), none⟩ (.int .i64 X)).setCell ⟨B, 5 + (q + 1), none⟩ (.int .i64 Y)).cell? ⟨B, 0, none⟩ = some (.int .i64 ((q : Int) + 1)) := near (by omega) (near (by omega) o0)
          have HMore2 := hide HMore
          clear HMore
          have hqi : (q : Int) + 1 < 4 := by omega
          have hqi0 : (0 : Int) ≤ (q : Int) + 1 := by omega
          have e1 : (X :: m :: ns).reverse = M ++ [X] := by rw [List.reverse_cons, HMr.out]
          have e2 : (Y :: t :: ts).reverse = S ++ [Y] := by rw [List.reverse_cons, HSr.out]
          have E1 := hide e1
          have E2 := hide e2
          clear e1 e2
          go_wp2
          go_roundw
          · refine mrel_step hlt hst2.out ?_ (by have := Hixi.out; omega)
            rw [E1.out, E2.out]
            exact HMore2.out
          · first | (simp [intOf]; done) | (simp [intOf]; omega)
    · have hkk : k = xs.length := by omega
      subst hkk
      have hA : mgL xs ss xs.length = (mrg xs ss).1 := by unfold mgL; rw [Nat.sub_self]; rfl
      have hB : mgS xs ss xs.length = (mrg xs ss).2 := by unfold mgS; rw [Nat.sub_self]; rfl
      rw [hA, hB] at HM
      have Hans2 := Hans.out
      subst Hans2
      clear hA hB Hans
      have hneg : ((xs.length : Int) - 1 - xs.length) = -1 := by omega
      rw [hneg]
      generalize hM1 : (mrg xs ss).1.reverse = M at HM
      generalize hS1 : (mrg xs ss).2.reverse = S at HM
      have HM1 := hide hM1
      have HS1 := hide hS1
      clear hM1 hS1
      have z0 := HM.out.o0
      have z1 : wr.cell? ⟨B, 1, none⟩ = _ := HM.out.ol 0 (by omega)
      have z2 : wr.cell? ⟨B, 2, none⟩ = _ := HM.out.ol 1 (by omega)
      have z3 : wr.cell? ⟨B, 3, none⟩ = _ := HM.out.ol 2 (by omega)
      have z4 : wr.cell? ⟨B, 4, none⟩ = _ := HM.out.ol 3 (by omega)
      have z5 : wr.cell? ⟨B, 5, none⟩ = _ := HM.out.os 0 (by omega)
      have z6 : wr.cell? ⟨B, 6, none⟩ = _ := HM.out.os 1 (by omega)
      have z7 : wr.cell? ⟨B, 7, none⟩ = _ := HM.out.os 2 (by omega)
      have z8 : wr.cell? ⟨B, 8, none⟩ = _ := HM.out.os 3 (by omega)
      have z9 := HM.out.o9
      have rr := HM.out.r
      have rr0 := rr 0 (by omega)
      have rr1 := rr 1 (by omega)
      have rr2 := rr 2 (by omega)
      have rr3 := rr 3 (by omega)
      have rr4 := rr 4 (by omega)
      have rr5 := rr 5 (by omega)
      have rr6 := rr 6 (by omega)
      have rr7 := rr 7 (by omega)
      have rr8 := rr 8 (by omega)
      have rr9 := rr 9 (by omega)
      have rf := fun o => HM.out.ex.unfrozen (b := w.heap.size + 1) (by omega) o
      have HE := hide HM.out.ex
      have HRR := hide rr
      clear rr
      generalize hT0 : M.getD 0 0 = t0 at z1
      have HT0 := hide hT0
      clear hT0
      generalize hT1 : M.getD 1 0 = t1 at z2
      have HT1 := hide hT1
      clear hT1
      generalize hT2 : M.getD 2 0 = t2 at z3
      have HT2 := hide hT2
      clear hT2
      generalize hT3 : M.getD 3 0 = t3 at z4
      have HT3 := hide hT3
      clear hT3
      generalize hU0 : S.getD 0 0 = u0 at z5
      have HU0 := hide hU0
      clear hU0
      generalize hU1 : S.getD 1 0 = u1 at z6
      have HU1 := hide hU1
      clear hU1
      generalize hU2 : S.getD 2 0 = u2 at z7
      have HU2 := hide hU2
      clear hU2
      generalize hU3 : S.getD 3 0 = u3 at z8
      have HU3 := hide hU3
      clear hU3
      go_wp2
      obtain ⟨q0, q1, q2, q3, q4, q5, q6, q7, q8, q9⟩ := chain10 HRR.out (.int .i64 (M.length : Int)) (.int .i64 t0) (.int .i64 t1) (.int .i64 t2) (.int .i64 t3) (.int .i64 u0) (.int .i64 u1) (.int .i64 u2) (.int .i64 u3) (.int .i64 off)
      exact bodyPost_ret (v := .agg #[.int .i64 (M.length : Int), .int .i64 t0, .int .i64 t1, .int .i64 t2, .int .i64 t3, .int .i64 u0, .int .i64 u1, .int .i64 u2, .int .i64 u3, .int .i64 off]) (by simp [results, Try.results38, go_sem, q0, q1, q2, q3, q4, q5, q6, q7, q8, q9]) rfl ⟨by unfold vw; rw [HM1.out, HS1.out, HT0.out, HT1.out, HT2.out, HT3.out, HU0.out, HU1.out, HU2.out, HU3.out], by repeat (first | with_reducible exact HE.out | with_reducible refine Ext.setCell ?_ (by show w.heap.size ≤ w.heap.size + 1; omega) _)⟩
end Go.Proofs.Ytanbgpmbccianaa
namespace Go.Proofs.Ytanbgpmbccianaa
open Go.ChangeShapes Go.RowKit Go.Shelf
set_option linter.unusedSimpArgs false
set_option linter.unusedVariables false

attribute [local go_sem] Oper.semAt_some

/-- Cells that were laid from block b on are kept. -/
structure KC (b : Nat) (A B : World) : Prop where
  size : A.heap.size ≤ B.heap.size
  keep : ∀ k o, b ≤ k → A.heap[k]? = some o → o.isCells = true → B.heap[k]? = some o
theorem KC.refl (b : Nat) (A : World) : KC b A A := ⟨Nat.le_refl _, fun _ _ _ h _ => h⟩
theorem KC.trans {b : Nat} {A B C : World} (x : KC b A B) (y : KC b B C) : KC b A C := ⟨Nat.le_trans x.size y.size, fun k o hb h hc => y.keep k o hb (x.keep k o hb h hc) hc⟩
theorem KC.alloc (b : Nat) (A : World) (o : Obj) : KC b A (A.alloc o) := by
  refine ⟨by simp, fun k o2 hb h hc => ?_⟩
  have hk : k < A.heap.size := by
    rcases Nat.lt_or_ge k A.heap.size with q | q
    · exact q
    · rw [Array.getElem?_eq_none q] at h; cases h
  rw [Below.heap_alloc A o k hk]; exact h
theorem KC.cell {b : Nat} {A B : World} (x : KC b A B) {k o : Nat} {v : Value} (hb : b ≤ k) (h : A.cell? ⟨k, o, none⟩ = some v) : B.cell? ⟨k, o, none⟩ = some v := by
  have hk : k < A.heap.size := cell_lt h
  have hc : ∃ ob, A.heap[k]? = some ob ∧ ob.isCells = true := by
    cases hh : A.heap[k]? with
    | none => simp [World.cell?, hh] at h
    | some ob =>
      refine ⟨ob, rfl, ?_⟩
      cases ob with
      | cells cs t f => rfl
      | _ => simp [World.cell?, hh] at h
  obtain ⟨ob, h1, h2⟩ := hc
  exact (World.cell?_of_block ((x.keep k ob hb h1 h2).trans h1.symm)).trans h

theorem room_of_none {F : Fence} (hd : F.depth = none) (k : Nat) : F.room k := fun d h => by rw [hd] at h; cases h

/-- The places of the d fastest merged axes. -/
def plD (M S : List Int) (d : Nat) (at_ : Int) : List Int := places (M.take d).reverse (S.take d).reverse at_
theorem plD_zero (M S : List Int) (at_ : Int) : plD M S 0 at_ = [at_] := by simp [plD, places]
theorem plD_succ (M S : List Int) (d : Nat) (at_ : Int) (h1 : d < M.length) (h2 : d < S.length) : plD M S (d + 1) at_ = (List.range (M.getD d 0).toNat).flatMap fun (i : Nat) => plD M S d (at_ + (i : Int) * S.getD d 0) := by
  unfold plD
  rw [take_snoc M d h1, take_snoc S d h2, List.reverse_append, List.reverse_append]
  rfl
/-- What has come when k rounds of the axis are over. -/
def plK (M S : List Int) (d : Nat) (at_ : Int) (k : Nat) : List Int := (List.range k).flatMap fun (i : Nat) => plD M S d (at_ + (i : Int) * S.getD d 0)
theorem plK_succ (M S : List Int) (d : Nat) (at_ : Int) (k : Nat) : plK M S d at_ (k + 1) = plK M S d at_ k ++ plD M S d (at_ + (k : Int) * S.getD d 0) := by
  simp [plK, List.range_succ]

theorem plK_prefix (M S : List Int) (d : Nat) (at_ : Int) {k m : Nat} (h : k ≤ m) : plK M S d at_ k <+: plK M S d at_ m := by
  obtain ⟨j, rfl⟩ := Nat.exists_eq_add_of_le h
  unfold plK
  rw [List.range_add, List.flatMap_append]
  exact List.prefix_append _ _
theorem plK_le (M S : List Int) (d : Nat) (at_ : Int) {k m : Nat} (h : k ≤ m) : (plK M S d at_ k).length ≤ (plK M S d at_ m).length := (plK_prefix M S d at_ h).length_le
/-- The rounds of the loop over one axis. -/
def WRel (J : List Int → World → Prop) (b : Nat) (W1 : World) (pre M S : List Int) (d : Nat) (place t : Int) (p i : Value) (cnt : Int) (wr : World) : Prop :=
  ∃ k : Nat, i = .int .i64 k ∧ p = .int .i64 (place + (k : Int) * t) ∧ (k : Int) ≤ cnt ∧ J (pre ++ plK M S d place k) wr ∧ KC b W1 wr

set_option maxRecDepth 100000 in
set_option maxHeartbeats 2000000 in
theorem walk_in (F : Fence) (hd : F.depth = none) (h84 : F.fn 39) (hro : F.round = none) (l b N : Nat) (Pr : Int → Prop) (J Jx : List Int → World → Prop) (hJ : AbidesFrom b J)
    (hY : ∀ m pre x W, Pr x → J pre W → pre.length < N → YieldAt F m Try.prog l #[.int .i64 x] W fun e W' =>
      (e = .returned (.bool true) ∧ J (pre ++ [x]) W' ∧ KC b W W') ∨ (e = .returned (.bool false) ∧ Jx (pre ++ [x]) W'))
    (M S : List Int) (off : Int) (h4 : M.length ≤ 4) (hl : S.length = M.length) (hM : ∀ m ∈ M, 0 ≤ m ∧ m ≤ 4096) (hS : ∀ t ∈ S, -4096 ≤ t ∧ t ≤ 4096) :
    ∀ (d : Nat), d ≤ M.length → ∀ (n : Nat) (place : Int) (pre : List Int) (W : World), b ≤ W.heap.size → (-(20000000 * (5 - (d : Int))) ≤ place ∧ place ≤ 20000000 * (5 - (d : Int))) → J pre W → pre.length + (plD M S d place).length ≤ N → (∀ x ∈ plD M S d place, Pr x) →
      CallsIn F n Try.prog 39 #[.agg (vw M S off), .int .i64 ((d : Int) - 1), .int .i64 place, .func (.yield l) #[] #[]] W fun e W' =>
        (e = .returned (.bool true) ∧ J (pre ++ plD M S d place) W' ∧ KC b W W') ∨ (e = .returned (.bool false) ∧ ∃ q, q <+: plD M S d place ∧ Jx (pre ++ q) W') := by
  intro d
  have hdd : ∀ k : Nat, (F.depth.isSome = true → 1 ≤ k) := fun k h => by rw [hd] at h; cases h
  induction d with
  | zero =>
    intro _ n place pre W hb hp hJ0 hN hPr
    rw [plD_zero] at hN hPr ⊢
    have hPp : Pr place := hPr place (List.mem_singleton.2 rfl)
    clear hPr
    unfold vw
    generalize M.getD 0 0 = e0
    generalize M.getD 1 0 = e1
    generalize M.getD 2 0 = e2
    generalize M.getD 3 0 = e3
    generalize S.getD 0 0 = e4
    generalize S.getD 1 0 = e5
    generalize S.getD 2 0 = e6
    generalize S.getD 3 0 = e7
    have hJ1 : J pre (W.alloc (.cells #[.int .i64 M.length, .int .i64 e0, .int .i64 e1, .int .i64 e2, .int .i64 e3, .int .i64 e4, .int .i64 e5, .int .i64 e6, .int .i64 e7, .int .i64 off] 58)) := hJ pre W _ none hJ0 (World.grownBy_alloc W _ none) (fun r e => by cases e)
    have hK1 := KC.alloc b W (.cells #[.int .i64 M.length, .int .i64 e0, .int .i64 e1, .int .i64 e2, .int .i64 e3, .int .i64 e4, .int .i64 e5, .int .i64 e6, .int .i64 e7, .int .i64 off] 58)
    obtain ⟨fn, tmps, assign, body, hy, hR⟩ := hY (n - 1) pre place _ hPp hJ1 (by simp at hN; omega)
    refine callsIn_of_wp Try.func39 rfl h84 ?_ hro
    simp only [Try.ntmps39, List.size_toArray, List.length_cons, List.length_nil, Nat.reduceAdd, Nat.reduceSub, Array.replicate_succ, Array.replicate_zero, List.push_toArray, List.append_toArray, List.nil_append, List.cons_append]
    gi_wp2
    refine hR.mono ?_
    rintro e W2 (⟨rfl, hJ2, hk2⟩ | ⟨rfl, hx2⟩)
    · gi_wp2
      go_ret
      exact .inl ⟨rfl, hJ2, hK1.trans hk2⟩
    · gi_wp2
      go_ret
      exact .inr ⟨rfl, [place], List.prefix_refl _, hx2⟩
  | succ d ih =>
    intro hdl n place pre W hb hp hJ0 hN hPr
    have hdS : d < S.length := by omega
    have hcnt : 0 ≤ M.getD d 0 ∧ M.getD d 0 ≤ 4096 := by
      rw [List.getD_eq_getElem?_getD, List.getElem?_eq_getElem (by omega)]; exact hM _ (List.getElem_mem _)
    have hst : -4096 ≤ S.getD d 0 ∧ S.getD d 0 ≤ 4096 := by
      rw [List.getD_eq_getElem?_getD, List.getElem?_eq_getElem hdS]; exact hS _ (List.getElem_mem _)
    have n1 := fun j => new_cell W (vw M S off) 58 W.heap.size rfl j
    have c0 := n1 0
    have c9 := n1 9
    have hd4 : d < 4 := by omega
    have hcl : ∀ j, j < 4 → (W.alloc (.cells (vw M S off) 58)).cell? ⟨W.heap.size, 1 + j, none⟩ = some (.int .i64 (M.getD j 0)) := fun j hj => by
      obtain rfl | rfl | rfl | rfl : j = 0 ∨ j = 1 ∨ j = 2 ∨ j = 3 := by omega
      · exact n1 1
      · exact n1 2
      · exact n1 3
      · exact n1 4
    have hcs : ∀ j, j < 4 → (W.alloc (.cells (vw M S off) 58)).cell? ⟨W.heap.size, 5 + j, none⟩ = some (.int .i64 (S.getD j 0)) := fun j hj => by
      obtain rfl | rfl | rfl | rfl : j = 0 ∨ j = 1 ∨ j = 2 ∨ j = 3 := by omega
      · exact n1 5
      · exact n1 6
      · exact n1 7
      · exact n1 8
    have l1 : (W.alloc (.cells (vw M S off) 58)).cell? ⟨W.heap.size, 1, none⟩ = _ := n1 1
    have l2 : (W.alloc (.cells (vw M S off) 58)).cell? ⟨W.heap.size, 2, none⟩ = _ := n1 2
    have l3 : (W.alloc (.cells (vw M S off) 58)).cell? ⟨W.heap.size, 3, none⟩ = _ := n1 3
    have l4 : (W.alloc (.cells (vw M S off) 58)).cell? ⟨W.heap.size, 4, none⟩ = _ := n1 4
    have l5 : (W.alloc (.cells (vw M S off) 58)).cell? ⟨W.heap.size, 5, none⟩ = _ := n1 5
    have l6 : (W.alloc (.cells (vw M S off) 58)).cell? ⟨W.heap.size, 6, none⟩ = _ := n1 6
    have l7 : (W.alloc (.cells (vw M S off) 58)).cell? ⟨W.heap.size, 7, none⟩ = _ := n1 7
    have l8 : (W.alloc (.cells (vw M S off) 58)).cell? ⟨W.heap.size, 8, none⟩ = _ := n1 8
    have qn := hcl d hd4
    have qt := hcs d hd4
    have hJ1 : J pre (W.alloc (.cells (vw M S off) 58)) := hJ pre W _ none hJ0 (World.grownBy_alloc W _ none) (fun r e => by cases e)
    have hK1 := KC.alloc b W (.cells (vw M S off) 58)
    rw [plD_succ M S d place (by omega) hdS] at hN hPr ⊢
    have hPk : Hid (∀ k : Nat, k < (M.getD d 0).toNat → ∀ x ∈ plD M S d (place + (k : Int) * S.getD d 0), Pr x) := fun k hk x hx => hPr x (List.mem_flatMap.2 ⟨k, List.mem_range.2 hk, hx⟩)
    clear hPr
    have hIH := hide (fun n place pre W => ih (by omega) n place pre W)
    clear ih n1 hcl hcs
    have Hk : Hid (plK M S d place (M.getD d 0).toNat = (List.range (M.getD d 0).toNat).flatMap fun (i : Nat) => plD M S d (place + (i : Int) * S.getD d 0)) := rfl
    rw [← Hk.out] at hN ⊢
    clear Hk
    have hks : Hid (∀ k, plK M S d place (k + 1) = plK M S d place k ++ plD M S d (place + (k : Int) * S.getD d 0)) := fun k => plK_succ M S d place k
    unfold vw at hJ1 hK1 qn qt c0 c9 l1 l2 l3 l4 l5 l6 l7 l8 hIH ⊢
    refine callsIn_of_wp Try.func39 rfl h84 ?_ hro
    simp only [Try.ntmps39, List.size_toArray, List.length_cons, List.length_nil, Nat.reduceAdd, Nat.reduceSub, Array.replicate_succ, Array.replicate_zero, List.push_toArray, List.append_toArray, List.nil_append, List.cons_append]
    generalize hcn : M.getD d 0 = cnt at *
    generalize hct : S.getD d 0 = t at *
    generalize M.getD 0 0 = e0 at *
    generalize M.getD 1 0 = e1 at *
    generalize M.getD 2 0 = e2 at *
    generalize M.getD 3 0 = e3 at *
    generalize S.getD 0 0 = e4 at *
    generalize S.getD 1 0 = e5 at *
    generalize S.getD 2 0 = e6 at *
    generalize S.getD 3 0 = e7 at *
    have hax : ((d + 1 : Nat) : Int) - 1 = (d : Int) := by omega
    rw [hax]
    clear hax
    have hd0 : (0 : Int) ≤ (d : Int) := Int.natCast_nonneg _
    have hdi : (d : Int) < 4 := by omega
    generalize hW1 : W.alloc (.cells #[.int .i64 M.length, .int .i64 e0, .int .i64 e1, .int .i64 e2, .int .i64 e3, .int .i64 e4, .int .i64 e5, .int .i64 e6, .int .i64 e7, .int .i64 off] 58) = W1 at *
    have hdn : ¬ (d : Int) < 0 := by omega
    gi_wp2
    try simp only [decide_eq_false hdn]
    have hNN := hide hN
    clear hdn hN
    have S0 : WRel J b W1 pre M S d place t (.int .i64 place) (.int .i64 0) cnt W1 := ⟨0, rfl, by simp, hcnt.1, by simpa [plK] using hJ1, KC.refl _ _⟩
    have HS0 := hide S0
    clear S0 hJ1
    gi_loopw [2, 19] (fun p i wr => WRel J b W1 pre M S d place t p i cnt wr) (fun p i _ => (cnt - intOf i).toNat)
    case atStart => exact HS0.out
    case round =>
      obtain ⟨k, rfl, rfl, hk, hJk, hKk⟩ := hrel
      have c0' := hKk.cell hb c0
      have c9' := hKk.cell hb c9
      have l1' := hKk.cell hb l1
      have l2' := hKk.cell hb l2
      have l3' := hKk.cell hb l3
      have l4' := hKk.cell hb l4
      have l5' := hKk.cell hb l5
      have l6' := hKk.cell hb l6
      have l7' := hKk.cell hb l7
      have l8' := hKk.cell hb l8
      by_cases hlt : (k : Int) < cnt
      · have hkt : -16777216 ≤ (k : Int) * t ∧ (k : Int) * t ≤ 16777216 := by
          have := mul_between (k : Int) 4097 t (by omega) (by omega)
          omega
        have hle : (plK M S d place k).length + (plD M S d (place + (k : Int) * t)).length ≤ (plK M S d place cnt.toNat).length := by
          rw [← List.length_append, ← hks.out]
          exact plK_le M S d place (by omega)
        have hcall := (hIH.out (n - 1) (place + (k : Int) * t) (pre ++ plK M S d place k) wr (Nat.le_trans hb (by have := hKk.size; rw [← hW1] at this; simp at this; omega)) (by omega) hJk (by have := hNN.out; rw [List.length_append]; omega) (hPk.out k (by omega)))
        have hpf : ∀ q, q <+: plD M S d (place + (k : Int) * t) → plK M S d place k ++ q <+: plK M S d place cnt.toNat := fun q hq => by
          refine List.IsPrefix.trans ?_ (plK_prefix M S d place (show k + 1 ≤ cnt.toNat by omega))
          rw [hks.out]
          exact (List.prefix_append_right_inj _).2 hq
        have hks1 := hide (hks.out k)
        have Hpf := hide hpf
        generalize hQ : plD M S d (place + (k : Int) * t) = PD at hcall Hpf hks1
        clear hQ hpf hle
        generalize hI : place + (k : Int) * t = I at hcall ⊢
        have HI := hide hI
        have hIb : -100000000 ≤ I ∧ I ≤ 100000000 := by omega
        clear hI
        have qtk := hKk.cell hb qt
        have HC := hide (hcall.mono (R' := fun e W3 => (e = .returned (.bool true) ∧ J (pre ++ plK M S d place k ++ PD) W3 ∧ KC b wr W3 ∧ W3.cell? ⟨W.heap.size, 5 + d, none⟩ = some (.int .i64 t)) ∨ (e = .returned (.bool false) ∧ ∃ q, q <+: PD ∧ Jx (pre ++ plK M S d place k ++ q) W3)) (fun e W3 h => h.elim (fun ⟨he, hj, hk⟩ => .inl ⟨he, hj, hk, hk.cell hb qtk⟩) .inr))
        clear hcall
        gi_wp2_with ((try refine ⟨hdd _, ?_⟩); gi_at_call 39; refine HC.out.mono ?_; clear HC; rintro e W3 (⟨rfl, hJ3, hk3, qt3⟩ | ⟨rfl, q, hq, hx3⟩))
        · go_roundw
          · refine ⟨k + 1, by go_num, ?_, by omega, ?_, hKk.trans hk3⟩
            · rw [← HI.out]
              congr 1
              rw [Int.natCast_add, Int.add_mul]
              omega
            · rw [hks1.out, ← List.append_assoc]; exact hJ3
          · simp [intOf]; omega
        · go_ret
          exact .inr ⟨rfl, plK M S d place k ++ q, Hpf.out q hq, by rw [← List.append_assoc]; exact hx3⟩
      · have hkk : (k : Int) = cnt := by omega
        have hkn : cnt.toNat = k := by omega
        have Hkn := hide hkn
        have hK2 := hide (hK1.trans hKk)
        have HJk := hide hJk
        clear hkn hJk hKk
        gi_wp2
        go_ret
        exact .inl ⟨rfl, by rw [Hkn.out]; exact HJk.out, hK2.out⟩
end Go.Proofs.Ytanbgpmbccianaa
namespace Go.Proofs.Ytanbgpmbccianaa
open Go.ChangeShapes Go.RowKit Go.Shelf
set_option linter.unusedSimpArgs false
set_option linter.unusedVariables false

attribute [local go_sem] Oper.semAt_some

theorem foldl_mul (xs : List Int) : ∀ a : Int, xs.foldl (· * ·) a = a * xs.foldl (· * ·) 1 := by
  induction xs with
  | nil => intro a; simp
  | cons x xs ih =>
    intro a
    simp only [List.foldl_cons]
    rw [ih (a * x), ih (1 * x), Int.one_mul, Int.mul_assoc]
theorem prod_cons (n : Int) (xs : List Int) : prod (n :: xs) = n * prod xs := by
  unfold prod
  simp only [List.foldl_cons]
  rw [foldl_mul, Int.one_mul]
theorem mrg1_prod (n s : Int) : ∀ (ns ts : List Int), ns.length = ts.length → prod (mrg1 n s ns ts).1 = n * prod ns
  | [], [], _ => by
    rw [mrg1_nil]
    split
    · next h => subst h; simp [prod]
    · rw [prod_cons]
  | m :: ns, t :: ts, _ => by
    rw [mrg1_cons]
    split
    · next h => subst h; simp
    · split
      · rw [prod_cons, prod_cons, Int.mul_comm m n, Int.mul_assoc]
      · rw [prod_cons n (m :: ns)]
  | [], _ :: _, h => by simp at h
  | _ :: _, [], h => by simp at h
theorem mrg1_ge (n s : Int) (hn : 1 ≤ n) : ∀ (ns ts : List Int), (∀ m ∈ ns, 1 ≤ m) → ∀ m ∈ (mrg1 n s ns ts).1, 1 ≤ m
  | [], ts, h => by
    rw [mrg1_none]
    split
    · simp
    · intro k hk
      have : k = n := by simpa using hk
      omega
  | m :: ns, [], h => by
    rw [mrg1_half]
    split
    · exact h
    · intro k hk
      rcases List.mem_cons.1 hk with rfl | hk
      · exact hn
      · exact h k hk
  | m :: ns, t :: ts, h => by
    have hm : 1 ≤ m := h m (List.mem_cons_self ..)
    rw [mrg1_cons]
    split
    · exact h
    · split
      · intro k hk
        rcases List.mem_cons.1 hk with rfl | hk
        · have : 1 * 1 ≤ m * n := Int.mul_le_mul hm hn (by omega) (by omega)
          omega
        · exact h k (List.mem_cons_of_mem _ hk)
      · intro k hk
        rcases List.mem_cons.1 hk with rfl | hk
        · exact hn
        · exact h k hk
theorem mrg_prod : ∀ (xs ss : List Int), xs.length = ss.length → (∀ n ∈ xs, 1 ≤ n) → prod (mrg xs ss).1 = prod xs ∧ ∀ m ∈ (mrg xs ss).1, 1 ≤ m
  | [], [], _, _ => by simp [mrg]
  | n :: ns, s :: ss, h, hp => by
    have hl : ns.length = ss.length := by simpa using h
    have ih := mrg_prod ns ss hl (fun k hk => hp k (List.mem_cons_of_mem _ hk))
    refine ⟨?_, mrg1_ge n s (hp n (List.mem_cons_self ..)) _ _ ih.2⟩
    show prod (mrg1 n s _ _).1 = _
    rw [mrg1_prod n s _ _ (mrg_len ns ss hl), ih.1, prod_cons]
  | [], _ :: _, h, _ => by simp at h
  | _ :: _, [], h, _ => by simp at h
theorem le_prod : ∀ (ns : List Int), (∀ m ∈ ns, 1 ≤ m) → 1 ≤ prod ns ∧ ∀ m ∈ ns, m ≤ prod ns
  | [], _ => by simp [prod]
  | n :: ns, h => by
    have ih := le_prod ns (fun k hk => h k (List.mem_cons_of_mem _ hk))
    have hn := h n (List.mem_cons_self ..)
    rw [prod_cons]
    have h1 : n * 1 ≤ n * prod ns := Int.mul_le_mul_of_nonneg_left ih.1 (by omega)
    have h2 : 1 * prod ns ≤ n * prod ns := Int.mul_le_mul_of_nonneg_right hn (by omega)
    refine ⟨by omega, fun m hm => ?_⟩
    rcases List.mem_cons.1 hm with rfl | hm
    · omega
    · have := ih.2 m hm
      omega

/-- The places of a view, in order; none where it has no element. -/
def offsL (xs ss : List Int) (off : Int) : List Int := if prod xs = 0 then [] else places xs ss off

theorem grown_ext {A B : World} (x : Ext A B) : A.grownBy B none := ⟨x.bl.os, x.bl.tape, x.bl.output, x.bl.size, fun k hk _ => x.bl.block k hk⟩

theorem prod_pos_of {xs : List Int} (hr : InR xs xs.length) (h0 : prod xs ≠ 0) : ∀ n ∈ xs, 1 ≤ n := fun n hn => by
  obtain ⟨j, hj, e⟩ := getD_mem hn
  have h1 := (hr j hj).1
  rcases Int.lt_or_le n 1 with q | q
  · exfalso
    have hz : xs.getD j 0 = 0 := by omega
    have := prod_zero_aux' xs j hz xs.length hj (Nat.le_refl _)
    rw [List.take_length] at this
    exact h0 this
  · exact q
 where
  prod_zero_aux' (ys : List Int) (a : Nat) (h0 : ys.getD a 0 = 0) : ∀ k, a < k → k ≤ ys.length → prod (ys.take k) = 0
    | 0, h, _ => absurd h (Nat.not_lt_zero _)
    | k + 1, h, hk => by
      rw [prod_take ys k (by omega)]
      by_cases e : a = k
      · subst e; rw [h0]; simp
      · rw [prod_zero_aux' ys a h0 k (by omega) (by omega)]; simp

theorem mrg_len2 : ∀ (xs ss : List Int), xs.length = ss.length → (mrg xs ss).1.length ≤ xs.length
  | [], [], _ => by simp [mrg]
  | n :: ns, s :: ss, h => by
    have hl : ns.length = ss.length := by simpa using h
    have ih := mrg_len2 ns ss hl
    have hm : ∀ (a b : List Int), (mrg1 n s a b).1.length ≤ a.length + 1 := fun a b => by
      cases a with
      | nil => rw [mrg1_none]; split <;> simp
      | cons m a =>
        cases b with
        | nil => rw [mrg1_half]; split <;> simp
        | cons t b => rw [mrg1_cons]; split <;> (try split) <;> simp
    have h2 : (mrg (n :: ns) (s :: ss)).1.length ≤ (mrg ns ss).1.length + 1 := hm _ _
    simp only [List.length_cons]
    omega
  | [], _ :: _, h => by simp at h
  | _ :: _, [], h => by simp at h
/-- Every merged stride is one of the view's. -/
theorem mrg_strides : ∀ (xs ss : List Int), ∀ t ∈ (mrg xs ss).2, t ∈ ss
  | [], ss, t, h => by simp [mrg] at h
  | n :: ns, [], t, h => by simp [mrg] at h
  | n :: ns, s :: ss, t, h => by
    have ih := mrg_strides ns ss
    have hm : ∀ (a b : List Int), ∀ t ∈ (mrg1 n s a b).2, t ∈ s :: b := fun a b t ht => by
      cases a with
      | nil =>
        rw [mrg1_none] at ht
        split at ht
        · exact List.mem_cons_of_mem _ ht
        · exact ht
      | cons m a =>
        cases b with
        | nil =>
          rw [mrg1_half] at ht
          split at ht
          · exact List.mem_cons_of_mem _ ht
          · exact ht
        | cons u b =>
          rw [mrg1_cons] at ht
          split at ht
          · exact List.mem_cons_of_mem _ ht
          · split at ht
            · exact List.mem_cons_of_mem _ ht
            · exact ht
    rcases List.mem_cons.1 (hm _ _ t h) with rfl | h
    · exact List.mem_cons_self ..
    · exact List.mem_cons_of_mem _ (ih t h)

set_option maxRecDepth 100000 in
set_option maxHeartbeats 2000000 in
/-- The walk of the merged view goes by the view's own places. -/
theorem walk_merged (l b : Nat) (xs ss : List Int) (off : Int) (h4 : xs.length ≤ 4) (hl : ss.length = xs.length) (hr : InR xs xs.length) (hz : prod xs ≠ 0) (hp : prod xs ≤ 4096) (hss : InS ss ss.length) (ho : 0 ≤ off ∧ off ≤ 4096) (Pr : Int → Prop) (hPr : ∀ x ∈ offsL xs ss off, Pr x) (J Jx : List Int → World → Prop) (hJ : AbidesFrom b J)
    (hY : ∀ m pre x W, Pr x → J pre W → pre.length < (offsL xs ss off).length → YieldAt Fence.wide m Try.prog l #[.int .i64 x] W fun e W' =>
      (e = .returned (.bool true) ∧ J (pre ++ [x]) W' ∧ KC b W W') ∨ (e = .returned (.bool false) ∧ Jx (pre ++ [x]) W'))
    (n : Nat) (W : World) (hb : b ≤ W.heap.size) (h0 : J [] W) :
    CallsIn Fence.wide n Try.prog 39 #[.agg (vw (mrg xs ss).1.reverse (mrg xs ss).2.reverse off), .int .i64 (((mrg xs ss).1.reverse.length : Int) - 1), .int .i64 off, .func (.yield l) #[] #[]] W fun e W' =>
        (e = .returned (.bool true) ∧ J (offsL xs ss off) W') ∨ (e = .returned (.bool false) ∧ ∃ q, q <+: offsL xs ss off ∧ Jx q W') := by
  have hpos := prod_pos_of hr hz
  have hM := mrg_prod xs ss hl.symm hpos
  have hle := le_prod _ hM.2
  have hlen := mrg_len xs ss hl.symm
  have hlen4 := mrg_len2 xs ss hl.symm
  have hl4 : (mrg xs ss).1.reverse.length ≤ 4 := by rw [List.length_reverse]; omega
  have hpl : plD (mrg xs ss).1.reverse (mrg xs ss).2.reverse (mrg xs ss).1.reverse.length off = offsL xs ss off := by
    unfold plD offsL
    rw [if_neg hz, List.take_length, List.length_reverse, hlen, ← List.length_reverse, List.take_length, List.reverse_reverse, List.reverse_reverse]
    exact places_mrg xs ss off hl.symm (fun k hk => by have := hpos k hk; omega)
  have key := walk_in Fence.wide rfl trivial rfl l b (offsL xs ss off).length Pr J Jx hJ hY (mrg xs ss).1.reverse (mrg xs ss).2.reverse off (by simp; omega) (by simp [hlen])
    (fun m hm => by
      have h1 := hM.2 m (List.mem_reverse.1 hm)
      have h2 := hle.2 m (List.mem_reverse.1 hm)
      rw [hM.1] at h2
      omega)
    (fun t ht => by
      obtain ⟨j, hj, e⟩ := getD_mem (mrg_strides xs ss t (List.mem_reverse.1 ht))
      have := hss j hj
      omega)
    (mrg xs ss).1.reverse.length (Nat.le_refl _) n off [] W hb (by omega) h0 (by rw [hpl]; simp) (by rw [hpl]; exact hPr)
  rw [hpl] at key
  refine key.mono ?_
  rintro e W' (⟨rfl, h, _⟩ | ⟨rfl, q, hq, h⟩)
  · exact .inl ⟨rfl, by simpa using h⟩
  · exact .inr ⟨rfl, q, hq, by simpa using h⟩
end Go.Proofs.Ytanbgpmbccianaa
