import Derived.Test.YtjjemnlknnnkbaaFPoolA
import Derived.Test.YtjjemnlknnnkbaaLawPR
import Derived.Test.YtjjemnlknnnkbaaDPoolB
namespace Go.Proofs.Ytjjemnlknnnkbaa
open Go.ChangeShapes Go.RowKit Go.MuLone
set_option linter.unusedSimpArgs false
set_option linter.unusedVariables false
def lawL (budget : Int) (ops : List P3) : Nat → List Int × List Int
  | 0 => ([], [])
  | k + 1 => lawStep (ops.getD k p0) (ansP (stepP budget (runP budget ops k).2 (ops.getD k p0))) (lawL budget ops k).1 (lawL budget ops k).2
theorem lawL_ok (budget : Int) (ops : List P3) : ∀ k, PI (runP budget ops k).2 (lawL budget ops k).1 (lawL budget ops k).2
  | 0 => PI.nil
  | k + 1 => (lawStep_ok (lawL_ok budget ops k) budget (ops.getD k p0)).1
theorem lawL_len (budget : Int) (ops : List P3) : ∀ k, (lawL budget ops k).1.length ≤ k ∧ (lawL budget ops k).2.length ≤ k
  | 0 => ⟨Nat.le_refl _, Nat.le_refl _⟩
  | k + 1 => by
    have ih := lawL_len budget ops k
    have h : lawL budget ops (k + 1) = lawStep (ops.getD k p0) (ansP (stepP budget (runP budget ops k).2 (ops.getD k p0))) (lawL budget ops k).1 (lawL budget ops k).2 := rfl
    rw [h]
    unfold lawStep
    split
    · split
      · simp; omega
      · have := gv_len (ansP (stepP budget (runP budget ops k).2 (ops.getD k p0))).2.1 (lawL budget ops k).1 (lawL budget ops k).2 (lawL budget ops k).1.length
        rw [this.1, this.2]; omega
    · dsimp only; exact ⟨by omega, by omega⟩
theorem runP_getD (budget : Int) (ops : List P3) : ∀ (n k : Nat), k < n → (runP budget ops n).1.getD k p0 = ansP (stepP budget (runP budget ops k).2 (ops.getD k p0))
  | 0, k, h => absurd h (Nat.not_lt_zero _)
  | n + 1, k, h => by
    rw [runP_succ]
    dsimp only
    have hl := runP_len budget ops n
    by_cases e : k < n
    · rw [List.getD_eq_getElem?_getD, List.getElem?_append_left (by omega), ← List.getD_eq_getElem?_getD]
      exact runP_getD budget ops n k e
    · obtain rfl : k = n := by omega
      rw [List.getD_eq_getElem?_getD, List.getElem?_append_right (by omega), hl]
      simp
def i64s (xs : List Int) : List Value := xs.map (fun x => .int .i64 x)
theorem i64s_len (xs : List Int) : (i64s xs).length = xs.length := by simp [i64s]
theorem i64s_at (xs : List Int) (j : Nat) (hj : j < xs.length) : (i64s xs)[j]? = some (.int .i64 (xs.getD j 0)) := by
  simp [i64s, List.getD_eq_getElem?_getD, hj]
theorem i64s_set (xs : List Int) (j : Nat) (x : Int) : (i64s xs).set j (.int .i64 x) = i64s (xs.set j x) := by
  simp [i64s, List.map_set]
theorem i64s_snoc (xs : List Int) (x : Int) : i64s (xs ++ [x]) = i64s xs ++ [.int .i64 x] := by simp [i64s]
theorem PVL.below {w w' : World} {lo hi H : Nat} {v : Value} {ts : List P3} (h : PVL w lo hi v ts) (x : Below H w w') (hH : hi ≤ H) : PVL w' lo hi v ts := by
  obtain ⟨sa, cap, rfl, h⟩ := h
  rcases h with h | ⟨g, off, h1, h2, h3, h4, h5⟩
  · exact ⟨sa, cap, rfl, Or.inl h⟩
  · have hc : ∀ {o v}, w.cell? ⟨g, o, none⟩ = some v → w'.cell? ⟨g, o, none⟩ = some v := fun {o v} hv => by rw [x.cell (p := ⟨g, o, none⟩) (show g < H by omega), hv]
    exact ⟨sa, cap, rfl, Or.inr ⟨g, off, h1, h2, h3, Nat.lt_of_lt_of_le h4 (Below.size x), fun j hj => ⟨hc (h5 j hj).1, hc (h5 j hj).2.1, hc (h5 j hj).2.2⟩⟩⟩
theorem PVL.wide {w : World} {lo hi hi' : Nat} {v : Value} {ts : List P3} (h : PVL w lo hi v ts) (hh : hi ≤ hi') : PVL w 0 hi' v ts := by
  obtain ⟨sa, cap, rfl, h⟩ := h
  rcases h with h | ⟨g, off, h1, h2, h3, h4, h5⟩
  · exact ⟨sa, cap, rfl, Or.inl h⟩
  · exact ⟨sa, cap, rfl, Or.inr ⟨g, off, h1, Nat.zero_le _, by omega, h4, h5⟩⟩
theorem PVL.cells {w : World} {lo hi : Nat} {v : Value} {ts : List P3} (h : PVL w lo hi v ts) (j : Nat) (hj : j < ts.length) : ∃ g off cap, v = .slice (some ⟨g, off, none⟩) ts.length cap ∧ w.cell? ⟨g, off + j * 3, none⟩ = some (.int .i64 (ts.getD j p0).1) ∧ w.cell? ⟨g, off + j * 3 + 1, none⟩ = some (.int .i64 (ts.getD j p0).2.1) ∧ w.cell? ⟨g, off + j * 3 + 2, none⟩ = some (.int .i64 (ts.getD j p0).2.2) := by
  obtain ⟨sa, cap, rfl, h⟩ := h
  rcases h with h | ⟨g, off, rfl, h2, h3, h4, h5⟩
  · rw [h] at hj; simp at hj
  · exact ⟨g, off, cap, rfl, h5 j hj⟩
/-- The world of the law's loop. -/
structure FW (w wr : World) (H : Nat) (vW vG vO vL vS : Value) (T ops : List P3) (L S : List Int) : Prop where
  wt : PVL wr 0 H vW T
  gt : PVL wr 0 H vG T
  op : PVL wr 0 H vO ops
  ol : wr.ownsRow H 2 1 vL L.length (i64s L)
  os : wr.ownsRow H 2 1 vS S.length (i64s S)
  dj : ∀ k, vL.ownBlock = some k → vS.ownBlock ≠ some k
  hw : w.heap.size ≤ H
  sz : H ≤ wr.heap.size
  bl : Bel w wr
theorem drawP_len (ds : List Int) (s : SS) (size : Int) (hs : 0 ≤ s.2) (h1 : 1 ≤ size) (h2 : size ≤ 7) : (drawP ds s size).2.length ≤ 1048576 := by
  have n0 : ∀ (s : SS) (m : Int), 0 ≤ s.2 → 0 ≤ (nextL ds s m).2.2 := fun s m h => by
    unfold nextL
    split
    · exact h
    · split
      · exact h
      · dsimp only; omega
  have nb : ∀ (s : SS) (m : Int), 0 ≤ s.2 → 1 ≤ m → (nextL ds s m).1 < m := fun s m h hm => (nextL_bd ds s m h).2 hm
  have d0 : ∀ s : SS, 0 ≤ s.2 → 0 ≤ (drawOne ds s).2.2 := fun s h => by
    unfold drawOne
    have a := n0 _ 130 (n0 s 20 h)
    split
    · exact n0 _ _ a
    · split
      · exact n0 _ _ a
      · split
        · exact n0 _ _ a
        · split
          · exact a
          · exact a
  have o0 : ∀ (s : SS) (k : Nat), 0 ≤ s.2 → 0 ≤ (opsL ds s k).2.2 := fun s k h => by
    induction k with
    | zero => exact h
    | succ k ih => exact d0 _ ih
  have b0' : 0 ≤ (budL ds s).2.2 := by
    unfold budL
    have a := n0 _ 16 (n0 s 60 hs)
    split
    · exact n0 _ _ a
    · exact a
  have hm : 0 ≤ (midP ds s size).2.2 := o0 _ _ (n0 _ _ b0')
  have hc : cntP ds s size ≤ 60 := by
    unfold cntP
    have := nb (budL ds s).2 (8 + 6 * size) b0' (by omega)
    omega
  have hl : (midP ds s size).1.length ≤ 60 := by unfold midP; rw [opsL_len]; exact hc
  unfold drawP
  dsimp only
  split
  · rw [fillN_len]
    have := nb (nextL ds (midP ds s size).2 60).2 2 (n0 _ _ hm) (by omega)
    omega
  · omega
section
variable {w wr W : World} {H : Nat} {vW vG vO vL vS : Value} {T ops : List P3} {L S : List Int}
theorem FW.keepB (h : FW w wr H vW vG vO vL vS T ops L S) (x : Below H wr W) {vL' vS' : Value} {L' S' : List Int} (ol : W.ownsRow H 2 1 vL' L'.length (i64s L')) (os : W.ownsRow H 2 1 vS' S'.length (i64s S')) (dj : ∀ k, vL'.ownBlock = some k → vS'.ownBlock ≠ some k) : FW w W H vW vG vO vL' vS' T ops L' S' :=
  ⟨h.wt.below x (Nat.le_refl _), h.gt.below x (Nat.le_refl _), h.op.below x (Nat.le_refl _), ol, os, dj, h.hw, Nat.le_trans h.sz x.size, Below.trans h.bl (Below.mono x h.hw)⟩
theorem FW.ext (h : FW w wr H vW vG vO vL vS T ops L S) (x : Ext wr W) : FW w W H vW vG vO vL vS T ops L S :=
  h.keepB (Below.mono x.bl h.sz) (own_below h.ol x.bl (fun k hk => (h.ol.lt k hk).2)) (own_below h.os x.bl (fun k hk => (h.os.lt k hk).2)) h.dj
theorem FW.cellL (h : FW w wr H vW vG vO vL vS T ops L S) (j : Nat) (hj : j < L.length) : ∃ g cap, vL = .slice (some ⟨g, 0, none⟩) L.length cap ∧ wr.cell? ⟨g, j, none⟩ = some (.int .i64 (L.getD j 0)) ∧ ∀ o, wr.frozen? ⟨g, o, none⟩ = false := by
  obtain ⟨g, cap, e, hg⟩ := own_form3 h.ol (by omega)
  subst e
  exact ⟨g, cap, rfl, (h.ol.cellAt j (by omega)).trans (i64s_at L j hj), fun o => h.ol.frozenAt o⟩
theorem FW.cellS (h : FW w wr H vW vG vO vL vS T ops L S) (j : Nat) (hj : j < S.length) : ∃ g cap, vS = .slice (some ⟨g, 0, none⟩) S.length cap ∧ wr.cell? ⟨g, j, none⟩ = some (.int .i64 (S.getD j 0)) ∧ ∀ o, wr.frozen? ⟨g, o, none⟩ = false := by
  obtain ⟨g, cap, e, hg⟩ := own_form3 h.os (by omega)
  subst e
  exact ⟨g, cap, rfl, (h.os.cellAt j (by omega)).trans (i64s_at S j hj), fun o => h.os.frozenAt o⟩
theorem FW.setS {g cap n : Nat} (h : FW w wr H vW vG vO vL (.slice (some ⟨g, 0, none⟩) n cap) T ops L S) (j : Nat) (x : Int) : FW w (wr.setCell ⟨g, j, none⟩ (.int .i64 x)) H vW vG vO vL (.slice (some ⟨g, 0, none⟩) n cap) T ops L (S.set j x) := by
  have hn : n = S.length := by obtain ⟨sa, c, e⟩ := own_form2 h.os; injection e
  subst hn
  have hst := h.os.stored j (.int .i64 x)
  rw [i64s_set] at hst
  refine h.keepB ((Below.refl H wr).setCell (p := ⟨g, j, none⟩) (h.os.lt g rfl).1 _) (ownsRow_setCell_other h.ol (fun e => h.dj g e rfl) _) (by rw [List.length_set]; exact hst.1) h.dj
theorem FW.setL {g cap n : Nat} (h : FW w wr H vW vG vO (.slice (some ⟨g, 0, none⟩) n cap) vS T ops L S) (j : Nat) (x : Int) : FW w (wr.setCell ⟨g, j, none⟩ (.int .i64 x)) H vW vG vO (.slice (some ⟨g, 0, none⟩) n cap) vS T ops (L.set j x) S := by
  have hn : n = L.length := by obtain ⟨sa, c, e⟩ := own_form2 h.ol; injection e
  subst hn
  have hst := h.ol.stored j (.int .i64 x)
  rw [i64s_set] at hst
  refine h.keepB ((Below.refl H wr).setCell (p := ⟨g, j, none⟩) (h.ol.lt g rfl).1 _) (by rw [List.length_set]; exact hst.1) (ownsRow_setCell_other h.os (fun e => h.dj g rfl e) _) h.dj
theorem FW.szA (h : FW w wr H vW vG vO vL vS T ops L S) (A : Array Value) (t : TypeId) : H ≤ (wr.alloc (.cells A t)).heap.size := by
  have h1 : wr.heap.size ≤ (wr.alloc (.cells A t)).heap.size := Below.size ((Ext.refl wr).alloc A t).bl
  exact Nat.le_trans h.sz h1
theorem FW.pushL (h : FW w wr H vW vG vO vL vS T ops L S) (x : Int) {vL' : Value} (hg : (wr.alloc (.cells #[.int .i64 x] 2)).grownBy W vL.ownBlock) (hO : W.ownsRow H 2 1 vL' (L.length + 1) (i64s L ++ [.int .i64 x]))
    (hat : vL'.ownBlock = vL.ownBlock ∨ ∃ k, vL'.ownBlock = some k ∧ wr.heap.size ≤ k) : FW w W H vW vG vO vL' vS T ops (L ++ [x]) S := by
  have hg' := grown_al hg
  refine h.keepB ((Below.refl H wr).grown hg' h.sz (fun j hj => own_ge h.ol j hj)) (by rw [List.length_append, i64s_snoc]; exact hO) (h.os.kept hg' ?_) (fun k hk e => ?_)
  · cases e : vS.ownBlock with
    | none => exact Or.inl rfl
    | some k => exact Or.inr (fun e1 => h.dj k e1.symm e)
  · rcases hat with q | ⟨k', q, hq⟩
    · rw [q] at hk; exact h.dj k hk e
    · rw [q] at hk
      have := (h.os.lt k e).2
      cases hk
      omega
theorem FW.pushS (h : FW w wr H vW vG vO vL vS T ops L S) (x : Int) {vS' : Value} (hg : (wr.alloc (.cells #[.int .i64 x] 2)).grownBy W vS.ownBlock) (hO : W.ownsRow H 2 1 vS' (S.length + 1) (i64s S ++ [.int .i64 x]))
    (hat : vS'.ownBlock = vS.ownBlock ∨ ∃ k, vS'.ownBlock = some k ∧ wr.heap.size ≤ k) : FW w W H vW vG vO vL vS' T ops L (S ++ [x]) := by
  have hg' := grown_al hg
  refine h.keepB ((Below.refl H wr).grown hg' h.sz (fun j hj => own_ge h.os j hj)) (h.ol.kept hg' ?_) (by rw [List.length_append, i64s_snoc]; exact hO) (fun k hk e => ?_)
  · cases e : vL.ownBlock with
    | none => exact Or.inl rfl
    | some k => exact Or.inr (fun e1 => h.dj k e e1.symm)
  · rcases hat with q | ⟨k', q, hq⟩
    · rw [q] at e; exact h.dj k hk e
    · rw [q] at e
      have := (h.ol.lt k hk).2
      cases e
      omega
end
def LRel (w : World) (H : Nat) (vW vG vO : Value) (T ops : List P3) (budget : Int) (l s i : Value) (wr : World) : Prop :=
  ∃ (k : Nat) (sa : Option Addr) (c : Nat) (sb : Option Addr) (d : Nat), i = .int .i64 k ∧ k ≤ T.length ∧ l = .slice sa (lawL budget ops k).1.length c ∧ s = .slice sb (lawL budget ops k).2.length d ∧ FW w wr H vW vG vO l s T ops (lawL budget ops k).1 (lawL budget ops k).2
theorem i64_one (x : Int) : ∀ u ∈ [Value.int .i64 x], u.oneCell' = true := fun u hu => by
  simp at hu
  rw [hu]; rfl
theorem one_new (W : World) (x : Int) : ∀ j u, [Value.int .i64 x][j]? = some u → (W.alloc (.cells #[.int .i64 x] 2)).cell? ((⟨W.heap.size, 0, none⟩ : Addr).add j) = some u := fun j u hu => by
  have n1 := fun j => new_cell W #[.int .i64 x] 2 W.heap.size rfl j
  rw [Addr.add_lit, Nat.zero_add, n1 j]
  simpa using hu

theorem poolL_at (budget : Int) (ops : List P3) (k : Nat) (hk : k < (poolL budget ops).length) : k < ops.length ∧ ops.length ≤ 2000 ∧ (poolL budget ops).getD k p0 = ansP (stepP budget (runP budget ops k).2 (ops.getD k p0)) := by
  unfold poolL at hk ⊢
  by_cases h : ops.length ≤ 2000
  · rw [if_pos h] at hk ⊢
    rw [runP_len] at hk
    exact ⟨hk, h, runP_getD budget ops ops.length k hk⟩
  · rw [if_neg h] at hk
    simp at hk
theorem PI.bd {bs : List Blk} {L S : List Int} (h : PI bs L S) (hs : SzOk bs) (j : Nat) (hj : j < S.length) : 0 ≤ S.getD j 0 ∧ S.getD j 0 ≤ 65536 := by
  rcases h.each j (by rw [← h.len]; exact hj) with ⟨_, h2⟩ | ⟨n, _, h2, _, h4⟩
  · rw [h2]; omega
  · rw [h4]; have := hs.at n h2; omega
theorem PI.part {bs : List Blk} {L S : List Int} (h : PI bs L S) (hs : SzOk bs) : ∀ j, j ≤ S.length → 0 ≤ sumL (S.take j) ∧ sumL (S.take j) ≤ 65536 * j
  | 0, _ => by simp [sumL]
  | j + 1, hj => by
    have ih := PI.part h hs j (by omega)
    have := h.bd hs j (by omega)
    rw [sumL_take S j (by omega)]
    omega

theorem PVL.cellsAt {w : World} {lo hi g off n cap : Nat} {ts : List P3} (h : PVL w lo hi (.slice (some ⟨g, off, none⟩) n cap) ts) (j : Nat) (hj : j < ts.length) {a b c : Int} (e : ts.getD j p0 = (a, b, c)) : w.cell? ⟨g, off + j * 3, none⟩ = some (.int .i64 a) ∧ w.cell? ⟨g, off + j * 3 + 1, none⟩ = some (.int .i64 b) ∧ w.cell? ⟨g, off + j * 3 + 2, none⟩ = some (.int .i64 c) := by
  obtain ⟨g', off', cap', e1, h1⟩ := h.cells j hj
  injection e1 with e2 _ _
  injection e2 with e3
  injection e3 with e4 e5 _
  subst e4 e5
  rw [e] at h1
  exact h1
theorem FW.drewN {w wr : World} {H : Nat} {vW vG vO vL vS : Value} {T ops : List P3} {L S : List Int} (h : FW w wr H vW vG vO vL vS T ops L S) (n : Nat) : FW w (wr.drewN n) H vW vG vO vL vS T ops L S := h.ext ((Ext.refl wr).drewN n)
theorem FW.drew {w wr : World} {H : Nat} {vW vG vO vL vS : Value} {T ops : List P3} {L S : List Int} (h : FW w wr H vW vG vO vL vS T ops L S) : FW w wr.drew H vW vG vO vL vS T ops L S := h.ext (Ext.refl wr).drew
end Go.Proofs.Ytjjemnlknnnkbaa
