import Derived.Test.YtjjemnlknnnkbaaInsA
import Derived.Test.YtjjemnlknnnkbaaInsB
import Derived.Test.YtjjemnlknnnkbaaInsC
namespace Go.Proofs.Ytjjemnlknnnkbaa
open Go.ChangeShapes Go.RowKit Go.Lib
set_option linter.unusedSimpArgs false
set_option linter.unusedVariables false

theorem ivals_get (L : List Int) (j : Nat) (hj : j < L.length) : (ivals L)[j]? = some (.int .i64 (L.getD j 0)) := by
  unfold ivals
  rw [List.getElem?_map, List.getD_eq_getElem?_getD, List.getElem?_eq_getElem hj]
  rfl
theorem ivals_ins (L : List Int) (p : Nat) (x : Int) : ivals (insL L p x) = (ivals L).take p ++ Value.int .i64 x :: (ivals L).drop p := by
  unfold ivals insL
  rw [List.map_append, List.map_cons, List.map_take, List.map_drop]
theorem row_vals {w : World} {b off : Nat} {M : List Int} (h : ∀ j, j < M.length → w.cell? ⟨b, off + j, none⟩ = (ivals M)[j]?) : Row w b off M := fun j hj => by rw [h j hj, ivals_get M j hj]
theorem grown_alloc (w : World) (o : Obj) (row : Option Nat) : w.grownBy (w.drew.alloc o) row := ⟨rfl, rfl, rfl, by show _ ≤ (w.heap.push o).size; rw [Array.size_push]; omega, fun k hk _ => by show (w.heap.push o)[k]? = _; rw [Array.getElem?_push, if_neg (Nat.ne_of_lt hk)]⟩
theorem new_block (w : World) (o : Obj) : (w.drew.alloc o).heap[w.heap.size]? = some o := by show (w.heap.push o)[w.heap.size]? = _; rw [Array.getElem?_push, if_pos rfl]
theorem grown_trans {w w1 w2 : World} {row : Option Nat} (h0 : w.grownBy w1 row) (h1 : w1.grownBy w2 row) : w.grownBy w2 row := ⟨h1.os.trans h0.os, h1.tape.trans h0.tape, h1.output.trans h0.output, Nat.le_trans h0.size h1.size, fun k hk hn => (h1.block k (Nat.lt_of_lt_of_le hk h0.size) hn).trans (h0.block k hk hn)⟩
/-- Behind a new block, what is written into it is no change of what was there. -/
theorem grown_new {w w1 w2 : World} {row : Option Nat} {k : Nat} (h0 : w.grownBy w1 row) (hk : w.heap.size ≤ k) (h1 : w1.grownBy w2 (some k)) : w.grownBy w2 row := ⟨h1.os.trans h0.os, h1.tape.trans h0.tape, h1.output.trans h0.output, Nat.le_trans h0.size h1.size, fun j hj hn => (h1.block j (Nat.lt_of_lt_of_le hj h0.size) (by intro e; simp at e; omega)).trans (h0.block j hj hn)⟩
theorem grown_drew (w : World) (row : Option Nat) : w.grownBy w.drew row := ⟨rfl, rfl, rfl, Nat.le_refl _, fun _ _ _ => rfl⟩

/-- A new row behind an append at the end. -/
theorem fv_grow {w : World} {L : List Int} {x : Int} (c : Nat) (hm : L.length + 1 ≤ maxLen) :
    FV (w.drew.alloc (.cells ((ivals L ++ [Value.int .i64 x]).toArray ++ Builtin.zeroCells (Value.int .i64 0).cells (grownCap w (L.length + 1) c 2 - (L.length + 1))) 2)) (.slice (some ⟨w.heap.size, 0, none⟩) (L.length + 1) (grownCap w (L.length + 1) c 2)) (insL L L.length x) := by
  have hge := grownCap_ge w (L.length + 1) c 2
  have hle := grownCap_le_maxLen w (L.length + 1) c 2 hm
  generalize grownCap w (L.length + 1) c 2 = G at *
  have hlen := insL_len L L.length x (Nat.le_refl _)
  refine Or.inr ⟨w.heap.size, 0, G, by rw [hlen], ⟨⟨_, new_block w _, ?_⟩, row_vals fun j hj => ?_, by rw [hlen]; exact hge, hle⟩⟩
  · simp [Builtin.zeroCells, Value.cells, ivals_len]; omega
  · rw [hlen] at hj
    rw [Nat.zero_add, World.cell?_alloc_at (w := w.drew) _ _ w.heap.size j rfl, Array.getElem?_append_left (by simp [ivals_len]; omega)]
    rw [ivals_ins, ← ivals_len L, List.take_length, List.drop_length]
    simp

theorem ins_any {w : World} {v : Value} {L : List Int} (h : FV w v L) (p : Nat) (hp : p ≤ L.length) (hbig : (L.length + 1) * 8 ≤ 140737488355328) (x : Int) (vb : Nat) (t : TypeId) (hv : w.heap[vb]? = some (.cells #[.int .i64 x] t (0, 0))) (hne : v.ownBlock ≠ some vb) :
    Calls Try.prog 52 #[v, .int .i64 p, .slice (some ⟨vb, 0, none⟩) 1 1] w fun e w' => InsOk w v L p x e w' := by
  have hc : w.cell? ⟨vb, 0, none⟩ = some (.int .i64 x) := by rw [cell_of_row w vb 0 _ t (0, 0) hv]; rfl
  have hm : L.length + 1 ≤ maxLen := by unfold maxLen; omega
  have hvw : vb < w.heap.size := (Array.getElem?_eq_some_iff.1 hv).1
  rcases h with ⟨rfl, rfl⟩ | ⟨b, off, cap, rfl, h⟩
  · have hp0 : p = 0 := by simpa using hp
    subst hp0
    refine (ins_end_grow (w := w) none 0 0 vb [] x (by omega) (by omega) (by omega) rfl (fun _ => rfl) (fun a e => by cases e) hc).mono fun e w' H => ?_
    obtain ⟨rfl, rfl⟩ := H
    exact ⟨_, rfl, fv_grow (L := []) 0 hm, grown_alloc _ _ _, Or.inr ⟨w.heap.size, rfl, Nat.le_refl _⟩⟩
  · have hbv : vb ≠ b := fun e => hne (by simp [Value.ownBlock, e])
    by_cases he : p = L.length
    · subst he
      by_cases hr : L.length + 1 ≤ cap
      · exact ins_end_room h hr x hc
      · refine (ins_end_grow (w := w) (some ⟨b, off, none⟩) L.length cap vb (ivals L) x h.le (by omega) hbig (ivals_len L) (fun e => by cases e) (fun a e j v hj => by cases e; rw [Addr.add_lit]; exact h.at j v hj) hc).mono fun e w' H => ?_
        obtain ⟨rfl, rfl⟩ := H
        exact ⟨_, rfl, fv_grow cap hm, grown_alloc _ _ _, Or.inr ⟨w.heap.size, rfl, Nat.le_refl _⟩⟩
    · have hpl : p < L.length := by omega
      have hlen := insL_len L p x hp
      by_cases hr : L.length + 1 ≤ cap
      · obtain ⟨cur, h1, h2⟩ := h.cur
        refine (ins_shift h hpl hr x hbv hc t 2 1 cur.size (by unfold World.shape?; rw [hv]; rfl) (by unfold World.shape?; rw [h1]) (by omega) (frozen_of_row w vb 0 _ t hv) (frozen_of_row w vb 1 _ t hv)).mono fun e w' H => ?_
        obtain ⟨rfl, rfl⟩ := H
        have hA : ∀ j, j < ((ivals L).drop p).length → (w.drew.cell? ⟨b, off + (p + 1) + j, none⟩).isSome = true := fun j hj => by
          rw [List.length_drop, ivals_len] at hj
          rw [Nat.add_assoc]
          exact h.isS _ (by omega)
        obtain ⟨c1, g1, g2⟩ := setCells_heap b ((ivals L).drop p) (off + (p + 1)) w.drew cur 2 h1
        obtain ⟨c2, k1, k2⟩ := setCells_heap b [.int .i64 x] (off + p) _ c1 2 g1
        refine ⟨_, rfl, Or.inr ⟨b, off, cap, by rw [hlen], ⟨⟨c2, k1, by omega⟩, fun j hj => ?_, by rw [hlen]; exact hr, h.cm⟩⟩, grown_trans (grown_trans (grown_drew _ _) (setCells_grown _ _ _ _)) (setCells_grown _ _ _ _), Or.inl rfl⟩
        rw [hlen] at hj
        rw [insL_getD _ _ _ hp]
        by_cases e1 : j < p
        · rw [if_pos e1, World.cell?_setCells_out b _ _ _ ⟨b, off + j, none⟩ (fun _ _ => Or.inl (by show off + j < off + p; omega)), World.cell?_setCells_out b _ _ _ ⟨b, off + j, none⟩ (fun _ _ => Or.inl (by show off + j < off + (p + 1); omega))]
          exact h.row j (by omega)
        · rw [if_neg e1]
          by_cases e2 : j = p
          · subst e2
            rw [if_pos rfl]
            have := World.cell?_setCells_in b [.int .i64 x] (off + j) (w.drew.setCells b (off + (j + 1)) ((ivals L).drop j)) (fun i hi => by
              simp at hi; subst hi
              exact isSome_setCells b _ _ _ hA _ (by simpa using h.isS j (by omega))) 0 (by simp)
            simpa using this
          · rw [if_neg e2, World.cell?_setCells_out b _ _ _ ⟨b, off + j, none⟩ (fun _ _ => Or.inr (by show off + p + 1 ≤ off + j; omega))]
            have hj1 : j - (p + 1) < ((ivals L).drop p).length := by rw [List.length_drop, ivals_len]; omega
            have := World.cell?_setCells_in b ((ivals L).drop p) (off + (p + 1)) w.drew hA (j - (p + 1)) hj1
            rw [show off + (p + 1) + (j - (p + 1)) = off + j by omega] at this
            rw [this, ← List.getElem?_eq_getElem hj1, List.getElem?_drop, show p + (j - (p + 1)) = j - 1 by omega]
            exact ivals_get L (j - 1) (by omega)
      · refine (ins_mid_grow h hpl (by omega) hbig x hvw hc).mono fun e w' H => ?_
        obtain ⟨rfl, rfl⟩ := H
        have hge := grownCap_ge w (L.length + 1) cap 2
        have hle := grownCap_le_maxLen w (L.length + 1) cap 2 hm
        generalize grownCap w (L.length + 1) cap 2 = G at *
        generalize hROW : ((ivals L).take p).toArray ++ Builtin.zeroCells (Value.int .i64 0).cells (L.length + 1 - p) ++ Builtin.zeroCells (Value.int .i64 0).cells (G - (L.length + 1)) = ROW
        have hRs : ROW.size = G := by
          rw [← hROW]
          simp [Builtin.zeroCells, Value.cells, ivals_len]
          omega
        have hR : ∀ j, j < p → ROW[j]? = (ivals L)[j]? := fun j hj => by
          rw [← hROW, Array.append_assoc, Array.getElem?_append_left (by simp [ivals_len]; omega)]
          simp [List.getElem?_take, hj]
        have hN : ∀ j, j < G → ((w.alloc (.cells ROW 2)).drew.cell? ⟨w.heap.size, j, none⟩).isSome = true := fun j hj => by
          show ((w.alloc (.cells ROW 2)).cell? _).isSome = true
          rw [World.cell?_alloc_at ROW _ w.heap.size j rfl, Array.getElem?_eq_getElem (by omega)]; rfl
        have hB0 : (w.alloc (.cells ROW 2)).drew.heap[w.heap.size]? = some (.cells ROW 2 (0, 0)) := new_block w _
        obtain ⟨c1, g1, g2⟩ := setCells_heap w.heap.size [.int .i64 x] p _ ROW 2 hB0
        obtain ⟨c2, k1, k2⟩ := setCells_heap w.heap.size ((ivals L).drop p) (p + 1) _ c1 2 (show (((w.alloc (.cells ROW 2)).drew.setCells w.heap.size p [.int .i64 x]).drew).heap[w.heap.size]? = _ from g1)
        have hA : ∀ j, j < ((ivals L).drop p).length → ((((w.alloc (.cells ROW 2)).drew.setCells w.heap.size p [.int .i64 x]).drew).cell? ⟨w.heap.size, p + 1 + j, none⟩).isSome = true := fun j hj => by
          rw [List.length_drop, ivals_len] at hj
          exact isSome_setCells w.heap.size _ _ _ (fun i hi => hN _ (by simp at hi; omega)) _ (hN _ (by omega))
        refine ⟨_, rfl, Or.inr ⟨w.heap.size, 0, G, by rw [hlen], ⟨⟨c2, k1, by omega⟩, fun j hj => ?_, by rw [hlen]; exact hge, hle⟩⟩, grown_new (grown_alloc w (.cells ROW 2) _) (Nat.le_refl _) (grown_trans (grown_trans (setCells_grown _ _ _ _) (grown_drew _ _)) (setCells_grown _ _ _ _)), Or.inr ⟨w.heap.size, rfl, Nat.le_refl _⟩⟩
        rw [hlen] at hj
        rw [insL_getD _ _ _ hp, Nat.zero_add]
        by_cases e1 : j < p
        · rw [if_pos e1, World.cell?_setCells_out w.heap.size _ _ _ ⟨w.heap.size, j, none⟩ (fun _ _ => Or.inl (by show j < p + 1; omega))]
          show (((w.alloc (.cells ROW 2)).drew.setCells w.heap.size p [.int .i64 x])).cell? _ = _
          rw [World.cell?_setCells_out w.heap.size _ _ _ ⟨w.heap.size, j, none⟩ (fun _ _ => Or.inl (by show j < p; omega))]
          show ((w.alloc (.cells ROW 2)).cell? _) = _
          rw [World.cell?_alloc_at ROW _ w.heap.size j rfl, hR j e1, ivals_get L j (by omega)]
        · rw [if_neg e1]
          by_cases e2 : j = p
          · subst e2
            rw [if_pos rfl, World.cell?_setCells_out w.heap.size _ _ _ ⟨w.heap.size, j, none⟩ (fun _ _ => Or.inl (by show j < j + 1; omega))]
            have := World.cell?_setCells_in w.heap.size [.int .i64 x] j (w.alloc (.cells ROW 2)).drew (fun i hi => hN _ (by simp at hi; omega)) 0 (by simp)
            simpa using this
          · rw [if_neg e2]
            have hj1 : j - (p + 1) < ((ivals L).drop p).length := by rw [List.length_drop, ivals_len]; omega
            have := World.cell?_setCells_in w.heap.size ((ivals L).drop p) (p + 1) _ hA (j - (p + 1)) hj1
            rw [show p + 1 + (j - (p + 1)) = j by omega] at this
            rw [this, ← List.getElem?_eq_getElem hj1, List.getElem?_drop, show p + (j - (p + 1)) = j - 1 by omega]
            exact ivals_get L (j - 1) (by omega)
end Go.Proofs.Ytjjemnlknnnkbaa
