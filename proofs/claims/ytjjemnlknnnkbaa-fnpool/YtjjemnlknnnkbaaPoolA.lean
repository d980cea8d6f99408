import Derived.Test.YtjjemnlknnnkbaaTurns
import Derived.Test.YtjjemnlknnnkbaaRound
namespace Go.Proofs.Ytjjemnlknnnkbaa
open Go.ChangeShapes Go.RowKit Go.MuLone
set_option linter.unusedSimpArgs false
set_option linter.unusedVariables false

/-- A block of the pool: its size, is it live. -/
abbrev Blk := Int × Bool
def b0 : Blk := (0, false)
def blv (b : Blk) : Int := if b.2 then b.1 else 0
def liveL : List Blk → Int
  | [] => 0
  | b :: bs => blv b + liveL bs
theorem liveL_append (a b : List Blk) : liveL (a ++ b) = liveL a + liveL b := by
  induction a with
  | nil => simp [liveL]
  | cons x a ih => simp only [List.cons_append, liveL, ih]; omega
theorem take_snocB {α : Type} (d : α) (xs : List α) (k : Nat) (hk : k < xs.length) : xs.take (k + 1) = xs.take k ++ [xs.getD k d] := by
  rw [List.take_add_one, List.getElem?_eq_getElem hk, List.getD_eq_getElem?_getD, List.getElem?_eq_getElem hk]; rfl
theorem liveL_take (bs : List Blk) (k : Nat) (hk : k < bs.length) : liveL (bs.take (k + 1)) = liveL (bs.take k) + blv (bs.getD k b0) := by
  rw [take_snocB b0 bs k hk, liveL_append]; simp [liveL]
/-- All sizes are those of blocks. -/
def SzOk (bs : List Blk) : Prop := ∀ b ∈ bs, 16 ≤ b.1 ∧ b.1 ≤ 65536
theorem SzOk.at {bs : List Blk} (h : SzOk bs) (j : Nat) (hj : j < bs.length) : 16 ≤ (bs.getD j b0).1 ∧ (bs.getD j b0).1 ≤ 65536 := by
  rw [List.getD_eq_getElem?_getD, List.getElem?_eq_getElem hj]
  exact h _ (List.getElem_mem hj)
theorem live_bd : ∀ (bs : List Blk), SzOk bs → 0 ≤ liveL bs ∧ liveL bs ≤ 65536 * bs.length
  | [], _ => by simp [liveL]
  | b :: bs, h => by
    have ih := live_bd bs (fun x hx => h x (by simp [hx]))
    have hb := h b (by simp)
    simp only [liveL, blv, List.length_cons]
    split <;> omega
theorem SzOk.take {bs : List Blk} (h : SzOk bs) (k : Nat) : SzOk (bs.take k) := fun b hb => h b (List.mem_of_mem_take hb)
def bvv (b : Blk) : List Value := [.int .i64 b.1, .bool b.2]
def bcells (bs : List Blk) : List Value := bs.flatMap bvv
theorem bcells_len : ∀ bs : List Blk, (bcells bs).length = bs.length * 2
  | [] => rfl
  | t :: ts => by
    have := bcells_len ts
    simp only [bcells, List.flatMap_cons, List.length_append, List.length_cons] at this ⊢
    rw [this]
    simp [bvv]; omega
theorem bcells_snoc (ts : List Blk) (t : Blk) : bcells (ts ++ [t]) = bcells ts ++ bvv t := by simp [bcells]
theorem bcells_at : ∀ (ts : List Blk) (j i : Nat), j < ts.length → i < 2 → (bcells ts)[j * 2 + i]? = (bvv (ts.getD j b0))[i]?
  | [], j, i, h, _ => by simp at h
  | t :: ts, 0, i, h, hi => by
    simp only [bcells, List.flatMap_cons, Nat.zero_mul, Nat.zero_add, List.getD_cons_zero]
    rw [List.getElem?_append_left (by simp [bvv]; omega)]
  | t :: ts, j + 1, i, h, hi => by
    have ih := bcells_at ts j i (by simpa using h) hi
    simp only [bcells, List.flatMap_cons, List.getD_cons_succ] at ih ⊢
    rw [List.getElem?_append_right (by simp [bvv]; omega), show (j + 1) * 2 + i - (bvv t).length = j * 2 + i by simp [bvv]; omega]
    exact ih
theorem bcells_set : ∀ (ts : List Blk) (j : Nat) (u : Bool), j < ts.length → (bcells ts).set (j * 2 + 1) (.bool u) = bcells (ts.set j ((ts.getD j b0).1, u))
  | [], j, u, h => by simp at h
  | t :: ts, 0, u, h => by simp [bcells, bvv]
  | t :: ts, j + 1, u, h => by
    have ih := bcells_set ts j u (by simpa using h)
    simp only [bcells, List.flatMap_cons, List.getD_cons_succ, List.set_cons_succ] at ih ⊢
    rw [List.set_append_right _ _ (by simp [bvv]; omega), show (j + 1) * 2 + 1 - (bvv t).length = j * 2 + 1 by simp [bvv]; omega, ih]
theorem bvv_one (t : Blk) : ∀ u ∈ bvv t, u.oneCell' = true := fun u hu => by
  simp [bvv] at hu
  rcases hu with rfl | rfl <;> rfl
theorem info61 : (Try.prog.info? 61).map (fun i => (i.zero, i.size, i.bytes)) = some (some (.agg #[.int .i64 0, .bool false]), 2, 16) := by kernel_rfl
theorem info32 : (Try.prog.info? 32).map (fun i => (i.zero, i.size, i.bytes)) = some (some (.agg #[.int .i64 0, .int .i64 0, .int .i64 0]), 3, 24) := by kernel_rfl
theorem bown_at {w : World} {base g n cap : Nat} {bs : List Blk} (h : w.ownsRow base 61 2 (.slice (some ⟨g, 0, none⟩) n cap) n (bcells bs)) : n = bs.length ∧ ∀ j, j < bs.length → w.cell? ⟨g, j * 2, none⟩ = some (.int .i64 (bs.getD j b0).1) ∧ w.cell? ⟨g, j * 2 + 1, none⟩ = some (.bool (bs.getD j b0).2) := by
  have hl : n = bs.length := by have := h.1; rw [bcells_len] at this; omega
  refine ⟨hl, fun j hj => ?_⟩
  have hb := fun (i : Nat) (hi : i < 2) => (h.cellAt (j * 2 + i) (by omega)).trans (bcells_at bs j i hj hi)
  exact ⟨hb 0 (by omega), hb 1 (by omega)⟩
theorem own_form3 {W : World} {base e size n : Nat} {v : Value} {L : List Value} (h : W.ownsRow base e size v n L) (hn : 0 < n) : ∃ g cap, v = .slice (some ⟨g, 0, none⟩) n cap ∧ base ≤ g := by
  rcases h.2 with ⟨h1, h2⟩ | ⟨g, cap, cur, h1, hb, _⟩
  · omega
  · exact ⟨g, cap, h1, hb⟩

set_option maxRecDepth 100000 in
set_option maxHeartbeats 1000000 in
/-- spec.l3Live -/
theorem l3Live_any {w : World} {base : Nat} {v : Value} {bs : List Blk} (h : w.ownsRow base 61 2 v bs.length (bcells bs)) (hs : SzOk bs) (hl : bs.length ≤ 2000) :
    Calls Try.prog 30 #[v] w fun e w' => e = .returned (.int .i64 (liveL bs)) ∧ w' = w := by
  have H := hide h
  obtain ⟨sa, cap, rfl⟩ := own_form2 h
  clear h
  go_enter Try.func30, Try.ntmps30
  go_wp2
  go_loopw [3, 4] (fun m i wr => ∃ k : Nat, i = .int .i64 k ∧ m = .int .i64 (liveL (bs.take k)) ∧ k ≤ bs.length ∧ wr = w) (fun m i _ => bs.length - (intOf i).toNat)
  case atStart => exact ⟨0, rfl, rfl, by omega, rfl⟩
  case round =>
    obtain ⟨k, rfl, rfl, hk, rfl⟩ := hrel
    by_cases hlt : k < bs.length
    · obtain ⟨g, cap', e, _⟩ := own_form3 H.out (by omega)
      injection e with e1 _ e2
      subst e1 e2
      obtain ⟨q0, q1⟩ := (bown_at H.out).2 k hlt
      have hk0 : (0 : Int) ≤ (k : Int) := Int.natCast_nonneg _
      have hk1 : (k : Int) < (bs.length : Int) := by omega
      have hp := liveL_take bs k hlt
      have hb0 := live_bd _ (hs.take k)
      have hsz := hs.at k hlt
      have hlk : ((bs.take k).length : Int) = k := by rw [List.length_take]; omega
      rw [hlk] at hb0
      unfold blv at hp
      generalize (bs.getD k b0).1 = S at q0 hp hsz
      generalize (bs.getD k b0).2 = U at q1 hp
      generalize hP1 : liveL (bs.take (k + 1)) = P1 at hp
      have HP1 := hide hP1
      clear hP1
      generalize liveL (bs.take k) = P0 at hp hb0 ⊢
      cases U with
      | true =>
        rw [if_pos rfl] at hp
        have Hp := hide hp
        clear hp hlk
        go_wp2
        go_roundw
        · exact ⟨k + 1, by go_num, by rw [HP1.out, Hp.out], by omega, by trivial⟩
        · simp [intOf]; omega
      | false =>
        rw [if_neg (by simp)] at hp
        have Hp := hide hp
        clear hp hlk
        go_wp2
        go_roundw
        · exact ⟨k + 1, by go_num, by rw [HP1.out, Hp.out, Int.add_zero], by omega, by trivial⟩
        · simp [intOf]; omega
    · have hkk : k = bs.length := by omega
      subst hkk
      rw [List.take_length]
      go_wp2
      go_ret
      exact ⟨rfl, rfl⟩
end Go.Proofs.Ytjjemnlknnnkbaa
