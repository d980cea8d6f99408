import Derived.Test.YtjjemnlknnnkbaaIns
namespace Go.Proofs.Ytjjemnlknnnkbaa
open Go.ChangeShapes Go.RowKit Go.Lib
set_option linter.unusedSimpArgs false
set_option linter.unusedVariables false
set_option maxRecDepth 100000 in
set_option maxHeartbeats 1000000 in
/-- slices.Insert at the end, where there is room. -/
theorem ins_end_room {w : World} {b off cap vb : Nat} {L : List Int} (h : FLat w b off cap L) (hroom : L.length + 1 ≤ cap) (x : Int) (hv : w.cell? ⟨vb, 0, none⟩ = some (.int .i64 x)) :
    Calls Try.prog 52 #[.slice (some ⟨b, off, none⟩) L.length cap, .int .i64 L.length, .slice (some ⟨vb, 0, none⟩) 1 1] w fun e w' => InsOk w (.slice (some ⟨b, off, none⟩) L.length cap) L L.length x e w' := by
  have hsrc : Src Try.prog 1 30 (.slice (some ⟨vb, 0, none⟩) 1 1) 1 [.int .i64 x] w := Src.ofSlice w Try.underlying30 ⟨vb, 0, none⟩ 1 1 [.int .i64 x] (by simp) (fun j u hj => by
    have hj0 : j = 0 := by have := (List.getElem?_eq_some_iff.1 hj).1; simpa using this
    subst hj0
    simp at hj
    subst hj
    rw [Addr.add_lit]; exact hv) (one_val x)
  have hc : ∀ j, j < [Value.int .i64 x].length → (w.cell? ⟨b, off + L.length + j, none⟩).isSome = true := fun j hj => by
    simp at hj; subst hj
    have := h.isS L.length (by omega)
    simpa using this
  have hf : ∀ j, j < [Value.int .i64 x].length → w.frozen? ⟨b, off + L.length + j, none⟩ = false := fun j hj => h.unfrozen _
  have Hres : Hid (InsOk w (.slice (some ⟨b, off, none⟩) L.length cap) L L.length x (.returned (.slice (some ⟨b, off, none⟩) (L.length + 1) cap)) (w.setCells b (off + L.length) [.int .i64 x])) := by
    obtain ⟨cur, h1, h2⟩ := h.cur
    obtain ⟨c1, g1, g2⟩ := setCells_heap b [.int .i64 x] (off + L.length) w cur 2 h1
    refine ⟨_, rfl, Or.inr ⟨b, off, cap, by rw [insL_len _ _ _ (Nat.le_refl _)], ⟨⟨c1, g1, by omega⟩, fun j hj => ?_, by rw [insL_len _ _ _ (Nat.le_refl _)]; exact hroom, h.cm⟩⟩, setCells_grown _ _ _ _, Or.inl rfl⟩
    rw [insL_len _ _ _ (Nat.le_refl _)] at hj
    rw [insL_getD _ _ _ (Nat.le_refl _)]
    by_cases e : j < L.length
    · rw [if_pos e, World.cell?_setCells_out b _ _ w ⟨b, off + j, none⟩ (fun _ _ => by show off + j < off + L.length ∨ _; omega)]
      exact h.row j e
    · have e2 : j = L.length := by omega
      subst e2
      rw [if_neg e, if_pos rfl]
      have := World.cell?_setCells_in b [.int .i64 x] (off + L.length) w hc 0 (by simp)
      simpa using this
  clear hv
  go_enter Try.func52, Try.ntmps52
  go_wp2_with (at_builtin; refine wpList_append_room1 _ rfl _ _ 30 30 rfl 2 _ _ Try.underlying30 info2 b off L.length cap rfl _ rfl 1 [.int .i64 x] hsrc hroom hc hf ?_)
  go_ret
  exact Hres.out

set_option maxRecDepth 100000 in
set_option maxHeartbeats 1000000 in
/-- slices.Insert at the end, where there is no room (the nil slice among these). -/
theorem ins_end_grow {w : World} (base : Option Addr) (n c vb : Nat) (cs : List Value) (x : Int) (hnc : n ≤ c) (hroom : c < n + 1) (hbig : (n + 1) * 8 ≤ 140737488355328) (hcl : cs.length = n) (hnil : base = none → n = 0)
    (hcs : ∀ a, base = some a → ∀ j v, cs[j]? = some v → w.cell? (a.add j) = some v) (hv : w.cell? ⟨vb, 0, none⟩ = some (.int .i64 x)) :
    Calls Try.prog 52 #[.slice base n c, .int .i64 n, .slice (some ⟨vb, 0, none⟩) 1 1] w fun e w' =>
      e = .returned (.slice (some ⟨w.heap.size, 0, none⟩) (n + 1) (grownCap w (n + 1) c 2)) ∧
      w' = w.drew.alloc (.cells ((cs ++ [Value.int .i64 x]).toArray ++ Builtin.zeroCells (Value.int .i64 0).cells (grownCap w (n + 1) c 2 - (n + 1))) 2) := by
  obtain ⟨i0, hi0, hz0, hzs, hzb⟩ := info_parts info2
  have hsrc : Src Try.prog i0.size 30 (.slice (some ⟨vb, 0, none⟩) 1 1) 1 [.int .i64 x] w := by
    rw [hzs]
    exact Src.ofSlice w Try.underlying30 ⟨vb, 0, none⟩ 1 1 [.int .i64 x] (by simp) (fun j u hj => by
      have hj0 : j = 0 := by have := (List.getElem?_eq_some_iff.1 hj).1; simpa using this
      subst hj0
      simp at hj
      subst hj
      rw [Addr.add_lit]; exact hv) (one_val x)
  have hold : (Builtin.firstCells i0.size n (.slice base n c)).run Try.prog w.drew = .ok cs.toArray w.drew := by
    rw [hzs]
    cases base with
    | none =>
      have h0 := hnil rfl
      subst h0
      rw [List.length_eq_zero_iff.1 hcl]
      exact run_firstCells_none w.drew 1 0 0 c
    | some a => exact run_firstCells_some w.drew 1 n a n c cs (by omega) (fun j v hj => hcs a rfl j v hj)
  have hrun : ∀ ty, (Builtin.append_ #[30, 30] ty #[.slice base n c, .slice (some ⟨vb, 0, none⟩) 1 1]).run Try.prog w = _ := fun ty =>
    run_append_grow_src w 30 30 ty 2 i0 _ Try.underlying30 hi0 hz0 base n c cs hold _ 1 [.int .i64 x] hsrc hroom (by omega) (by rw [hzb]; exact growslice_fits hroom hbig)
  clear hv hcs
  go_enter Try.func52, Try.ntmps52
  cases base with
  | none =>
    have h0 := hnil rfl
    subst h0
    go_wp2_with (at_builtin; refine Lib.wpList_append_run _ rfl _ _ _ _ rfl _ _ rfl rfl _ _ (hrun _) ?_)
    go_ret
    exact ⟨rfl, rfl⟩
  | some a =>
    obtain ⟨ab, ao, asp⟩ := a
    go_wp2_with (at_builtin; refine Lib.wpList_append_run _ rfl _ _ _ _ rfl _ _ rfl rfl _ _ (hrun _) ?_)
    all_goals (go_ret; exact ⟨rfl, rfl⟩)
end Go.Proofs.Ytjjemnlknnnkbaa
