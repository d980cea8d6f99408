import Derived.Test.YtiekkninnjffpaaPlaces
import Derived.Test.YtiekkninnjffpaaShapes
namespace Go.Proofs.Ytiekkninnjffpaa
set_option linter.unusedSimpArgs false
set_option linter.unusedVariables false

/-- One axis more ahead of merged ones (all lists: the slowest axis first). -/
def mrg1 (n s : Int) : List Int → List Int → List Int × List Int
  | m :: ns, t :: ts => if n = 1 then (m :: ns, t :: ts) else if s = t * m then (m * n :: ns, t :: ts) else (n :: m :: ns, s :: t :: ts)
  | ns, ts => if n = 1 then (ns, ts) else (n :: ns, s :: ts)
def mrg : List Int → List Int → List Int × List Int
  | n :: ns, s :: ss => mrg1 n s (mrg ns ss).1 (mrg ns ss).2
  | _, _ => ([], [])

theorem mrg1_nil (n s : Int) : mrg1 n s [] [] = if n = 1 then ([], []) else ([n], [s]) := rfl
theorem mrg1_cons (n s m t : Int) (ns ts : List Int) : mrg1 n s (m :: ns) (t :: ts) = if n = 1 then (m :: ns, t :: ts) else if s = t * m then (m * n :: ns, t :: ts) else (n :: m :: ns, s :: t :: ts) := rfl
theorem mrg1_half (n s m : Int) (ns : List Int) : mrg1 n s (m :: ns) [] = if n = 1 then (m :: ns, []) else (n :: m :: ns, [s]) := rfl
theorem mrg1_none (n s : Int) (ts : List Int) : mrg1 n s [] ts = if n = 1 then ([], ts) else ([n], s :: ts) := by cases ts <;> rfl
theorem mrg1_len (n s : Int) : ∀ (ns ts : List Int), ns.length = ts.length → (mrg1 n s ns ts).1.length = (mrg1 n s ns ts).2.length
  | [], [], _ => by rw [mrg1_nil]; split <;> rfl
  | m :: ns, t :: ts, h => by
    have h' : ns.length = ts.length := by simpa using h
    rw [mrg1_cons]
    split
    · simp [h']
    · split <;> simp [h']
  | [], _ :: _, h => by simp at h
  | _ :: _, [], h => by simp at h
theorem mrg_len : ∀ (xs ss : List Int), xs.length = ss.length → (mrg xs ss).1.length = (mrg xs ss).2.length
  | [], [], _ => rfl
  | n :: ns, s :: ss, h => mrg1_len n s _ _ (mrg_len ns ss (by simpa using h))
  | [], _ :: _, h => by simp at h
  | _ :: _, [], h => by simp at h
theorem mrg1_le (n s : Int) : ∀ (ns ts : List Int), ns.length = ts.length → (mrg1 n s ns ts).1.length ≤ ns.length + 1
  | [], [], _ => by rw [mrg1_nil]; split <;> simp
  | m :: ns, t :: ts, h => by
    rw [mrg1_cons]
    split
    · simp
    · split <;> simp
  | [], _ :: _, h => by simp at h
  | _ :: _, [], h => by simp at h

/-- A count in a row of rows. -/
theorem flat_range {α : Type} (n m : Nat) (f : Nat → List α) : ((List.range n).flatMap fun i => (List.range m).flatMap fun j => f (i * m + j)) = (List.range (n * m)).flatMap f := by
  induction n with
  | zero => simp
  | succ n ih =>
    rw [List.range_succ, List.flatMap_append, ih, Nat.succ_mul, List.range_add, List.flatMap_append]
    simp [List.flatMap_map]

theorem places_one (s at_ : Int) (ns ss : List Int) : places (1 :: ns) (s :: ss) at_ = places ns ss at_ := by
  simp [places]

theorem places_mrg1 (n s : Int) (hn : 0 ≤ n) : ∀ (ns ts : List Int) (at_ : Int), ns.length = ts.length → (∀ m ∈ ns, 0 ≤ m) → places (mrg1 n s ns ts).1 (mrg1 n s ns ts).2 at_ = places (n :: ns) (s :: ts) at_
  | [], [], at_, _, _ => by
    rw [mrg1_nil]
    split
    · next h => subst h; rw [places_one]
    · rfl
  | m :: ns, t :: ts, at_, h, hp => by
    rw [mrg1_cons]
    split
    · next h1 => subst h1; rw [places_one]
    · split
      · next h1 h2 =>
        subst h2
        have hm : 0 ≤ m := hp m (List.mem_cons_self ..)
        have e : (m * n).toNat = n.toNat * m.toNat := by
          have h3 : m = (m.toNat : Int) := by omega
          have h4 : n = (n.toNat : Int) := by omega
          rw [h3, h4, ← Int.natCast_mul, Int.toNat_natCast, Int.toNat_natCast, Int.toNat_natCast, Nat.mul_comm]
        show ((List.range (m * n).toNat).flatMap fun (i : Nat) => places ns ts (at_ + (i : Int) * t)) = (List.range n.toNat).flatMap fun (i : Nat) => (List.range m.toNat).flatMap fun (j : Nat) => places ns ts (at_ + (i : Int) * (t * m) + (j : Int) * t)
        rw [e, ← flat_range]
        congr 1
        funext i
        congr 1
        funext j
        congr 1
        have h3 : m = (m.toNat : Int) := by omega
        rw [Int.natCast_add, Int.natCast_mul, ← h3, Int.add_mul, Int.mul_comm t m, ← Int.mul_assoc]
        omega
      · rfl
  | [], _ :: _, _, h, _ => by simp at h
  | _ :: _, [], _, h, _ => by simp at h

theorem mrg1_pos (n s : Int) (hn : 0 ≤ n) : ∀ (ns ts : List Int), (∀ m ∈ ns, 0 ≤ m) → ∀ m ∈ (mrg1 n s ns ts).1, 0 ≤ m
  | m :: ns, t :: ts, h => by
    have hm : 0 ≤ m := h m (List.mem_cons_self ..)
    have hr : ∀ k ∈ ns, 0 ≤ k := fun k hk => h k (List.mem_cons_of_mem _ hk)
    rw [mrg1_cons]
    split
    · exact h
    · split
      · intro k hk
        rcases List.mem_cons.1 hk with rfl | hk
        · exact Int.mul_nonneg hm hn
        · exact hr k hk
      · intro k hk
        rcases List.mem_cons.1 hk with rfl | hk
        · exact hn
        · exact h k hk
  | [], ts, h => by
    rw [mrg1_none]
    split
    · simp
    · intro k hk
      have : k = n := by simpa using hk
      omega
  | m :: ns, [], h => by
    rw [mrg1_half]
    split
    · exact h
    · intro k hk
      rcases List.mem_cons.1 hk with rfl | hk
      · exact hn
      · exact h k hk
theorem mrg_pos : ∀ (xs ss : List Int), (∀ n ∈ xs, 0 ≤ n) → ∀ m ∈ (mrg xs ss).1, 0 ≤ m
  | [], _, _ => by simp [mrg]
  | _ :: _, [], _ => by simp [mrg]
  | n :: ns, s :: ss, h => mrg1_pos n s (h n (List.mem_cons_self ..)) _ _ (mrg_pos ns ss (fun k hk => h k (List.mem_cons_of_mem _ hk)))

/-- Merged axes give the same places in the same order. -/
theorem places_mrg : ∀ (xs ss : List Int) (at_ : Int), xs.length = ss.length → (∀ n ∈ xs, 0 ≤ n) → places (mrg xs ss).1 (mrg xs ss).2 at_ = places xs ss at_
  | [], [], _, _, _ => rfl
  | n :: ns, s :: ss, at_, h, hp => by
    have hl : ns.length = ss.length := by simpa using h
    have hr : ∀ k ∈ ns, 0 ≤ k := fun k hk => hp k (List.mem_cons_of_mem _ hk)
    show places (mrg1 n s _ _).1 (mrg1 n s _ _).2 at_ = _
    rw [places_mrg1 n s (hp n (List.mem_cons_self ..)) _ _ at_ (mrg_len ns ss hl) (mrg_pos ns ss hr)]
    simp only [places]
    congr 1
    funext i
    exact places_mrg ns ss _ hl hr
  | [], _ :: _, _, h, _ => by simp at h
  | _ :: _, [], _, h, _ => by simp at h
end Go.Proofs.Ytiekkninnjffpaa
