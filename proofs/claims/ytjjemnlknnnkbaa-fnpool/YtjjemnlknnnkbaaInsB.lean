import Derived.Test.YtjjemnlknnnkbaaIns
namespace Go.Proofs.Ytjjemnlknnnkbaa
open Go.ChangeShapes Go.RowKit Go.Lib
set_option linter.unusedSimpArgs false
set_option linter.unusedVariables false

set_option maxRecDepth 100000 in
set_option maxHeartbeats 2000000 in
/-- slices.Insert ahead of the end, where there is room: what stands from p on moves by one. -/
theorem ins_shift {w : World} {b off c vb p : Nat} {L : List Int} (h : FLat w b off c L) (hp : p < L.length) (hroom : L.length + 1 ≤ c) (x : Int) (hvb : vb ≠ b) (hv : w.cell? ⟨vb, 0, none⟩ = some (.int .i64 x))
    (tA tB : TypeId) (kA kB : Nat) (hsa : w.shape? vb = some (tA, kA)) (hsb : w.shape? b = some (tB, kB)) (hkB : kB ≠ 0) (hfa : w.frozen? ⟨vb, 0, none⟩ = false) (hfe : w.frozen? ⟨vb, kA, none⟩ = false) :
    Calls Try.prog 52 #[.slice (some ⟨b, off, none⟩) L.length c, .int .i64 p, .slice (some ⟨vb, 0, none⟩) 1 1] w fun e w' =>
      e = .returned (.slice (some ⟨b, off, none⟩) (L.length + 1) c) ∧ w' = (w.drew.setCells b (off + (p + 1)) ((ivals L).drop p)).setCells b (off + p) [.int .i64 x] := by
  have hc63 := h.cm
  unfold maxLen at hc63
  have hz2 : ¬ ((p : Int) = (L.length : Int)) := by omega
  have hsz : (Try.prog.info? 2).map (·.size) = some 1 := by kernel_rfl
  have hov : ∀ lb cb, (callFunc 57 #[.slice (some ⟨vb, 0, none⟩) 1 1, .slice (some ⟨b, off + (p + 1), none⟩) lb cb]).run Try.prog w = .ok (.value (.bool false)) w := fun lb cb => by
    rw [run_callFunc_extern Try.func57 (by kernel_rfl) (by kernel_rfl) (by kernel_rfl) (e := Extern.SlicesOverlaps.overlaps #[30, 30] #[4]) (by kernel_rfl),
      Lib.run_overlaps_apart w 30 4 2 Try.underlying30 1 Try.sizeOf2 ⟨vb, 0, none⟩ ⟨b, off + (p + 1), none⟩ 1 1 lb cb hvb tA tB kA kB hsa hsb hkB hfa hfe]
    rfl
  have hdl : ((ivals L).drop p).length = L.length - p := by rw [List.length_drop, ivals_len]
  have hw1 : IntKind.i64.wrap ((p : Int) + 1) = (p : Int) + 1 := by rw [IntKind.wrap_i64]; omega
  have hb1 : (0 : Int) ≤ (p : Int) + 1 := by omega
  have hin : p ≤ L.length := by omega
  have htn : ((p : Int) + 1).toNat = p + 1 := by omega
  have hb2 : ¬ (c = p + 1) := by omega
  have hb3 : (p : Int) ≤ (L.length : Int) + 1 := by omega
  have hb4 : ¬ (c = p) := by omega
  have hcp1 : ∀ ty dc sc, (Builtin.copy_ #[30, 30] ty #[.slice (some ⟨b, off + (p + 1), none⟩) (L.length - p) dc, .slice (some ⟨b, off + p, none⟩) (L.length + 1 - p) sc]).run Try.prog w.drew = .ok (goInt ((ivals L).drop p).length) (w.drew.setCells b (off + (p + 1)) ((ivals L).drop p)) := fun ty dc sc =>
    run_copy_cells w.drew _ _ ty 2 b (off + (p + 1)) (L.length - p) dc ⟨b, off + p, none⟩ (L.length + 1 - p) sc ((ivals L).drop p) Try.underlying30 hsz (by rw [hdl]; simp only [Nat.min_def]; split <;> omega)
      (fun j v hj => by rw [Addr.add_lit, Nat.add_assoc]; exact h.at (p + j) v (by rwa [List.getElem?_drop] at hj))
      (fun j hj => by rw [Nat.add_assoc]; exact h.isS _ (by omega)) (fun j hj => h.unfrozen _) (fun v hv => ivals_one L v (List.mem_of_mem_drop hv))
  obtain ⟨W1, hW1⟩ : ∃ W1, W1 = w.drew.setCells b (off + (p + 1)) ((ivals L).drop p) := ⟨_, rfl⟩
  have hsp1 : ∀ k, k < L.length + 1 → (W1.cell? ⟨b, off + k, none⟩).isSome = true := fun k hk => by
    rw [hW1]
    exact isSome_setCells b _ _ _ (fun j hj => by rw [Nat.add_assoc]; exact h.isS _ (by omega)) _ (h.isS k (by omega))
  have hcp2 : ∀ (W : World), (∀ x, W.cell? x = W1.cell? x) → (∀ x, W.frozen? x = W1.frozen? x) → ∀ ty dc, (Builtin.copy_ #[30, 30] ty #[.slice (some ⟨b, off + p, none⟩) (L.length + 1 - p) dc, .slice (some ⟨vb, 0, none⟩) 1 1]).run Try.prog W = .ok (goInt [Value.int .i64 x].length) (W.setCells b (off + p) [.int .i64 x]) := fun W hWc hWf ty dc =>
    run_copy_cells W _ _ ty 2 b (off + p) (L.length + 1 - p) dc ⟨vb, 0, none⟩ 1 1 [.int .i64 x] Try.underlying30 hsz (by simp only [List.length_singleton, Nat.min_def]; split <;> omega)
      (fun j v hj => by
        have hj0 : j = 0 := by have := (List.getElem?_eq_some_iff.1 hj).1; simpa using this
        subst hj0
        simp at hj
        subst hj
        rw [Addr.add_lit, hWc, hW1, World.cell?_setCells_out b _ _ _ _ (fun h _ => absurd h hvb)]
        exact hv)
      (fun j hj => by rw [hWc, Nat.add_assoc]; exact hsp1 _ (by simp at hj; omega)) (fun j hj => by rw [hWf, hW1, World.frozen?_setCells]; exact h.unfrozen _) (one_val x)
  rw [← hW1] at hcp1
  clear hv
  generalize L.length = n at *
  have mixed : Try.prog.follows Departure.mixedOrders = true := by kernel_rfl
  go_enter Try.func52, Try.ntmps52
  go_wp2_with (simp only [hov])
  go_region_law_o (refine step_copy_runI rfl _ _ 30 30 rfl _ _ (by simp [Act.eval, Act.put]) (by simp [Act.eval, Act.put]) (hcp1 _ _ _) ?_)
  go_wp2_with (at_builtin; refine wpList_copy_runI _ rfl _ _ 30 30 rfl _ _ rfl rfl (hcp2 _ (fun _ => rfl) (fun _ => rfl) _ _) ?_)
  go_ret
  first | exact ⟨rfl, rfl⟩ | exact ⟨rfl, by rw [hW1]⟩
end Go.Proofs.Ytjjemnlknnnkbaa
