import Derived.Test.YtjjemnlknnnkbaaPoolA
namespace Go.Proofs.Ytjjemnlknnnkbaa
open Go.ChangeShapes Go.RowKit Go.MuLone
set_option linter.unusedSimpArgs false
set_option linter.unusedVariables false

/-- The first free block of the size. -/
def freeB (bs : List Blk) (r : Int) (i : Nat) : Bool := !(bs.getD i b0).2 && (bs.getD i b0).1 == r
def findFree (bs : List Blk) (r : Int) : Option Nat := (List.range bs.length).find? (freeB bs r)
theorem find_at {bs : List Blk} {r : Int} {i : Nat} (hi : i < bs.length) (h : freeB bs r i = true) (hn : ∀ j, j < i → freeB bs r j = false) : findFree bs r = some i := by
  unfold findFree
  rw [List.find?_range_eq_some]
  exact ⟨h, by simpa using hi, fun j hj => by simpa using hn j hj⟩
theorem find_none {bs : List Blk} {r : Int} (hn : ∀ j, j < bs.length → freeB bs r j = false) : findFree bs r = none := by
  unfold findFree
  rw [List.find?_eq_none]
  intro i hi
  rw [hn i (by simpa using hi)]
  simp
def takeL (bs : List Blk) (budget r : Int) : List Blk × Int :=
  if budget < liveL bs + r then (bs, -1) else match findFree bs r with
    | some i => (bs.set i (r, true), (i : Int))
    | none => (bs ++ [(r, true)], (bs.length : Int))
/-- What l3Take leaves. -/
def TkOk (w : World) (base : Nat) (v : Value) (x : List Blk × Int) (e : Ending) (w' : World) : Prop :=
  ∃ v', e = .returned (.tuple #[v', .int .i64 x.2]) ∧ w'.ownsRow base 61 2 v' x.1.length (bcells x.1) ∧ w.grownBy w' v.ownBlock ∧ (v'.ownBlock = v.ownBlock ∨ ∃ k, v'.ownBlock = some k ∧ w.heap.size ≤ k)
theorem grown_refl (w : World) (row : Option Nat) : w.grownBy w row := ⟨rfl, rfl, rfl, Nat.le_refl _, fun _ _ _ => rfl⟩
theorem two_new (W : World) (t : Blk) : ∀ j u, (bvv t)[j]? = some u → (W.alloc (.cells #[.int .i64 t.1, .bool t.2] 61)).cell? ((⟨W.heap.size, 0, none⟩ : Addr).add j) = some u := fun j u hu => by
  have n1 := fun j => new_cell W #[.int .i64 t.1, .bool t.2] 61 W.heap.size rfl j
  rw [Addr.add_lit, Nat.zero_add, n1 j]
  simpa [bvv] using hu
theorem grown_al {w w' : World} {o : Obj} {row : Option Nat} (h : (w.alloc o).grownBy w' row) : w.grownBy w' row := by
  have h1 := World.grownBy_alloc w o row
  exact ⟨h.os.trans h1.os, h.tape.trans h1.tape, h.output.trans h1.output, Nat.le_trans h1.size h.size, fun k hk hn => (h.block k (Nat.lt_of_lt_of_le hk h1.size) hn).trans (h1.block k hk hn)⟩

set_option maxRecDepth 100000 in
set_option maxHeartbeats 1000000 in
/-- spec.l3Take -/
theorem l3Take_any {w : World} {base : Nat} {v : Value} {bs : List Blk} (h : w.ownsRow base 61 2 v bs.length (bcells bs)) (hs : SzOk bs) (hl : bs.length ≤ 2000) (hbase : base ≤ w.heap.size) (budget r : Int) (hr : 16 ≤ r ∧ r ≤ 65536) :
    Calls Try.prog 29 #[v, .int .i64 budget, .int .i64 r] w fun e w' => TkOk w base v (takeL bs budget r) e w' := by
  obtain ⟨i61, hi61, hy0, hy1, hy2⟩ := info_parts info61
  have H := hide h
  have hb := live_bd bs hs
  have Hlv := hide (l3Live_any h hs hl)
  obtain ⟨sa, cap, rfl⟩ := own_form2 h
  clear h
  go_enter Try.func29, Try.ntmps29
  go_wp2_with fail
  refine Hlv.out.mono ?_
  rintro e wr ⟨rfl, rfl⟩
  clear Hlv
  by_cases hbud : budget < liveL bs + r
  · have ht : Hid (takeL bs budget r = (bs, -1)) := if_pos hbud
    generalize liveL bs = LV at hb hbud ⊢
    go_wp2
    refine bodyPost_ret (results_tmp2 rfl _ _ _) rfl ?_
    rw [ht.out]
    exact ⟨_, rfl, H.out, grown_refl _ _, Or.inl rfl⟩
  · have ht : Hid (takeL bs budget r = match findFree bs r with
      | some i => (bs.set i (r, true), (i : Int))
      | none => (bs ++ [(r, true)], (bs.length : Int))) := if_neg hbud
    have hdb : decide (budget < liveL bs + r) = false := decide_eq_false hbud
    generalize liveL bs = LV at hb hbud hdb ⊢
    go_wp2_with fail
    go_loopw [8] (fun i W => ∃ k : Nat, i = .int .i64 k ∧ k ≤ bs.length ∧ Hid (∀ j, j < k → freeB bs r j = false) ∧ W = wr) (fun i _ => bs.length - (intOf i).toNat)
    case atStart => exact ⟨0, rfl, by omega, fun j hj => absurd hj (Nat.not_lt_zero _), rfl⟩
    case round =>
      obtain ⟨k, rfl, hk, hno, rfl⟩ := hrel
      by_cases hlt : k < bs.length
      · have H2 := H.out
        obtain ⟨g, cap', e, hg⟩ := own_form3 H2 (by omega)
        injection e with e1 _ e2
        subst e1 e2
        obtain ⟨q0, q1⟩ := (bown_at H2).2 k hlt
        have qf := H2.frozenAt (k * 2 + 1)
        have hk0 : (0 : Int) ≤ (k : Int) := Int.natCast_nonneg _
        have hk1 : (k : Int) < (bs.length : Int) := by omega
        have hfr : freeB bs r k = (!(bs.getD k b0).2 && (bs.getD k b0).1 == r) := rfl
        have hst := H2.stored (k * 2 + 1) (.bool true)
        rw [bcells_set bs k true hlt] at hst
        have Hno2 : Hid (freeB bs r k = false → ∀ j, j < k + 1 → freeB bs r j = false) := fun h j hj => by
          by_cases e : j = k
          · subst e; exact h
          · exact hno.out j (by omega)
        have Hst := hide hst
        clear hst
        generalize (bs.getD k b0).1 = S at q0 hfr Hst
        generalize (bs.getD k b0).2 = U at q1 hfr
        cases U with
        | true =>
          have Hn := hide (Hno2.out (by rw [hfr]; rfl))
          clear hfr Hno2 Hst
          go_wp2
          go_roundw
          · exact ⟨k + 1, by go_num, by omega, Hn, by trivial⟩
          · simp [intOf]; omega
        | false =>
          by_cases hS : S = r
          · subst hS
            have hfd : Hid (findFree bs S = some k) := find_at hlt (by rw [hfr]; simp) hno.out
            clear hfr Hno2
            go_wp2
            refine bodyPost_ret (results_tmp2 rfl _ _ _) rfl ?_
            rw [ht.out, hfd.out]
            refine ⟨_, rfl, ?_, Hst.out.2, Or.inl rfl⟩
            have := Hst.out.1
            simpa using this
          · have hSb : (S == r) = false := by simp [hS]
            have Hn := hide (Hno2.out (by rw [hfr, hSb]; rfl))
            clear hfr Hno2 Hst
            go_wp2
            go_roundw
            · exact ⟨k + 1, by go_num, by omega, Hn, by trivial⟩
            · simp [intOf]; omega
      · have hkk : k = bs.length := by omega
        subst hkk
        have hfd : Hid (findFree bs r = none) := find_none hno.out
        have hM63 : bs.length + 1 ≤ maxLen := by unfold maxLen; omega
        have hM8 : (bs.length + 1) * 16 ≤ 140737488355328 := by omega
        have hbs : Hid (base ≤ (wr.alloc (.cells #[.int .i64 r, .bool true] 61)).heap.size) := by
          show base ≤ (wr.alloc (.cells #[.int .i64 r, .bool true] 61)).heap.size
          simp; omega
        have hqn : ¬ (bs.length : Int) < (bs.length : Int) := by omega
        go_wp2_with (at_builtin; (refine wpList_append_own_at _ rfl _ _ 57 rfl base 61 i61 (.agg #[.int .i64 0, .bool false]) 2 16 Try.underlying57 hi61 hy0 hy1 hy2 rfl (by decide) _ _ _ rfl (H.out.alloc _) ⟨wr.heap.size, 0, none⟩ 1 1 (bvv (r, true)) rfl rfl (two_new _ (r, true)) (bvv_one _) hM63 hM8 hbs.out ?_); intro v3 w3 hown3 hgrow3 hnil3 hat3; have HO := hide hown3; have HGr := hide (grown_al hgrow3); have HAt := hide hat3; clear hown3 hgrow3 hnil3 hat3)
        refine bodyPost_ret (results_tmp2 rfl _ _ _) rfl ?_
        rw [ht.out, hfd.out]
        refine ⟨_, rfl, ?_, HGr.out, ?_⟩
        · rw [List.length_append, bcells_snoc]; exact HO.out
        · rcases HAt.out with q | q
          · exact Or.inl q
          · exact Or.inr ⟨_, q, by simp⟩
end Go.Proofs.Ytjjemnlknnnkbaa
