import Derived.Test.YtfhcpicddegblaaGreatM5
import Derived.Test.YtfhcpicddegblaaGreatM5
import Derived.Test.YtfhcpicddegblaaGreatM5
import Derived.Deep.AppendLies
import Derived.Deep.RegionHeld3
namespace Go.Proofs.YtfhcpicddegblaaGreat
open Go.ChangeShapes Go.RowKit FL
set_option linter.unusedSimpArgs false
set_option linter.unusedVariables false

/-- A heap in memory of its own: the stores in block g, their cells in the blocks cb, one behind the other. -/
structure HOwn (w : World) (lo g : Nat) (cb : Nat → Nat) (ss : List St) : Prop where
  dt : ∀ j, j < ss.length → w.cell? ⟨g, j * 2, none⟩ = some (.int .i64 (ss.getD j s0).1)
  sl : ∀ j, j < ss.length → ∃ sa cap, w.cell? ⟨g, j * 2 + 1, none⟩ = some (.slice sa (ss.getD j s0).2.length cap) ∧ ((ss.getD j s0).2 = [] ∨ sa = some ⟨cb j, 0, none⟩)
  row : ∀ j, j < ss.length → (ss.getD j s0).2 ≠ [] → CRow w (cb j) 0 (ss.getD j s0).2
  fz : ∀ o, w.frozen? ⟨g, o, none⟩ = false
  fzr : ∀ j, j < ss.length → (ss.getD j s0).2 ≠ [] → ∀ o, w.frozen? ⟨cb j, o, none⟩ = false
  lo_g : lo ≤ g
  g_lt : g < w.heap.size
  g_cb : ∀ j, j < ss.length → (ss.getD j s0).2 ≠ [] → g < cb j
  inc : ∀ i j, i < j → j < ss.length → (ss.getD i s0).2 ≠ [] → (ss.getD j s0).2 ≠ [] → cb i < cb j
theorem HOwn.sv {w : World} {lo g cap : Nat} {cb : Nat → Nat} {ss : List St} (h : HOwn w lo g cb ss) : SV w (.slice (some ⟨g, 0, none⟩) ss.length cap) ss := by
  refine ⟨_, cap, rfl, Or.inr ⟨g, 0, rfl, fun j hj => ?_⟩⟩
  rw [Nat.zero_add]
  obtain ⟨sa, cp, h1, h2⟩ := h.sl j hj
  refine ⟨h.dt j hj, _, h1, sa, cp, rfl, ?_⟩
  by_cases e : (ss.getD j s0).2 = []
  · exact Or.inl e
  · exact Or.inr ⟨cb j, 0, h2.resolve_left e, h.row j hj e⟩
/-- The stores one behind the other. -/
def flatS (U : Nat → Value) (ss : List St) : Nat → List Value
  | 0 => []
  | k + 1 => flatS U ss k ++ [.int .i64 (ss.getD k s0).1, U k]
theorem flatS_len (U : Nat → Value) (ss : List St) (k : Nat) : (flatS U ss k).length = k * 2 := by
  induction k with
  | zero => rfl
  | succ k ih => rw [flatS, List.length_append, ih]; simp; omega
theorem flatS_congr {U V : Nat → Value} {ss : List St} {k : Nat} (h : ∀ j, j < k → U j = V j) : flatS U ss k = flatS V ss k := by
  induction k with
  | zero => rfl
  | succ k ih => rw [flatS, flatS, ih (fun j hj => h j (by omega)), h k (by omega)]
theorem flatS_get (U : Nat → Value) (ss : List St) (k j : Nat) (h : j < k) : (flatS U ss k)[j * 2]? = some (.int .i64 (ss.getD j s0).1) ∧ (flatS U ss k)[j * 2 + 1]? = some (U j) := by
  induction k with
  | zero => omega
  | succ k ih =>
    rw [flatS]
    by_cases e : j = k
    · subst e
      have hl := flatS_len U ss j
      rw [List.getElem?_append_right (by omega), List.getElem?_append_right (by omega), hl]
      exact ⟨by simp, by simp⟩
    · have hl := flatS_len U ss k
      rw [List.getElem?_append_left (by omega), List.getElem?_append_left (by omega)]
      exact ih (by omega)
theorem own_bel {w w' : World} {base e size n : Nat} {v : Value} {xs : List Value} (h : w.ownsRow base e size v n xs) (x : Bel w w') : w'.ownsRow base e size v n xs := by
  refine ⟨h.1, ?_⟩
  rcases h.2 with h | ⟨g, cap, cur, rfl, h1, h2, h3⟩
  · exact Or.inl h
  · exact Or.inr ⟨g, cap, cur, rfl, h1, by rw [Below.block x g (Array.getElem?_eq_some_iff.1 h2).1]; exact h2, h3⟩
/-- Nothing is appended. -/
theorem step_append_zero {P : Program} {w : World} {ops : Array Oper} {o : Oper} {a : Act} {K : Act → World → Prop} {Q : Exit → Act → World → Prop} {E : Prop}
    (hg : o.guard = none) (s x : Operand) (t : TypeId) (hop : o.op = Op.call { callee := Callee.builtin Builtin.append, args := #[s, x], argTypes := #[t, t] })
    (e : TypeId) (i : TypeInfo) (h1 : P.underlying t = some (.slice e)) (h2 : P.info? e = some i)
    (p : Addr) (k cap : Nat) (hk : k ≤ cap) (hs : a.eval s = .slice (some p) k cap) (sa : Option Addr) (c : Nat) (hx : a.eval x = .slice sa 0 c)
    (hK : K (a.put o.dst (.slice (some p) k cap)) w) :
    if Region.wanted o (yielded ops a.tmps) = true then Oper.wp P o a w K Q else E := by
  have hw : Region.wanted o (yielded ops a.tmps) = true := by simp [Region.wanted, hg]
  rw [if_pos hw]
  have hl : ∀ (x : Addr), (loadCells x 0).run P w = .ok #[] w := fun x => by simpa using run_loadCells_list (P := P) w x [] (by simp)
  have hr : (Builtin.append_ #[t, t] o.type #[.slice (some p) k cap, .slice sa 0 c]).run P w = .ok (.slice (some p) k cap) w := by
    cases sa <;> simp [Builtin.append_, run_underlying h1, sizeOf, typeInfo, h2, Builtin.lenOf, Builtin.firstCells, hk, storeCells, hl]
  unfold Oper.wp execOp
  simp only [hop, resolve, invoke, builtin, Sem.run_bind, Sem.run_pure, Result.andThen_ok, List.map_toArray, List.map_cons, List.map_nil, hs, hx, hr]
  exact hK
theorem crow_flat {w : World} {b off : Nat} {cs : List C3} (h : CRow w b off cs) (j : Nat) (u : Value) (hj : (flat cs)[j]? = some u) : w.cell? ⟨b, off + j, none⟩ = some u := by
  have hl : j < cs.length * 3 := by rw [← flatC_len]; exact (List.getElem?_eq_some_iff.1 hj).1
  obtain ⟨a, b', c⟩ := h (j / 3) (by omega)
  obtain ⟨p, q, r⟩ := flat_get cs (j / 3) (by omega)
  have hm : j % 3 = 0 ∨ j % 3 = 1 ∨ j % 3 = 2 := by omega
  rcases hm with e | e | e
  · rw [show j = j / 3 * 3 by omega] at hj ⊢
    rw [p] at hj
    rw [← hj]
    exact a
  · rw [show j = j / 3 * 3 + 1 by omega] at hj ⊢
    rw [q] at hj
    rw [← hj, ← Nat.add_assoc]
    exact b'
  · rw [show j = j / 3 * 3 + 2 by omega] at hj ⊢
    rw [r] at hj
    rw [← hj, ← Nat.add_assoc]
    exact c
theorem flat_one' (cs : List C3) : ∀ u ∈ flat cs, u.oneCell' = true := by
  induction cs with
  | nil => intro u hu; cases hu
  | cons c cs ih =>
    intro u hu
    rw [flat, List.mem_append] at hu
    rcases hu with hu | hu
    · exact c3v_one c u hu
    · exact ih u hu
theorem own_lo {w : World} {base e size n g cap : Nat} {xs : List Value} (h : w.ownsRow base e size (.slice (some ⟨g, 0, none⟩) n cap) n xs) (hn : 0 < n) : base ≤ g := by
  obtain ⟨g', cap', e', hb⟩ := own_g h hn
  injection e' with e1 _ _
  injection e1 with e1
  injection e1 with e1
  omega
/-- How far the copy has come. -/
structure CpSt (w : World) (n : Nat) (ss : List St) (k : Nat) (U : Nat → Value) (cb : Nat → Nat) (wr : World) : Prop where
  bl : Bel w wr
  b0 : wr.cell? ⟨w.heap.size + 3, 0, none⟩ = some (.slice (some ⟨w.heap.size + 2, 0, none⟩) k n)
  own : wr.ownsRow (w.heap.size + 2) 123 2 (.slice (some ⟨w.heap.size + 2, 0, none⟩) k n) k (flatS U ss k)
  rs0 : wr.cell? ⟨w.heap.size + 1, 0, none⟩ = some (.slice none 0 0)
  f1 : wr.frozen? ⟨w.heap.size + 1, 0, none⟩ = false
  f3 : wr.frozen? ⟨w.heap.size + 3, 0, none⟩ = false
  fzr : ∀ j, j < k → (ss.getD j s0).2 ≠ [] → ∀ o, wr.frozen? ⟨cb j, o, none⟩ = false
  us : ∀ j, j < k → ∃ sa cap, U j = .slice sa (ss.getD j s0).2.length cap ∧ ((ss.getD j s0).2 = [] ∨ sa = some ⟨cb j, 0, none⟩)
  row : ∀ j, j < k → (ss.getD j s0).2 ≠ [] → CRow wr (cb j) 0 (ss.getD j s0).2
  lt : ∀ j, j < k → (ss.getD j s0).2 ≠ [] → w.heap.size + 3 < cb j ∧ cb j < wr.heap.size
  inc : ∀ i j, i < j → j < k → (ss.getD i s0).2 ≠ [] → (ss.getD j s0).2 ≠ [] → cb i < cb j

theorem CpSt.step {w : World} {n : Nat} {ss : List St} {k : Nat} {U : Nat → Value} {cb : Nat → Nat} {wr : World} (h : CpSt w n ss k U cb wr) {W5 w7 : World} (b5 : Bel wr W5) {tmp : Obj} (V : Value) (c : Nat)
    (hV : ∃ sa cap, V = .slice sa (ss.getD k s0).2.length cap ∧ ((ss.getD k s0).2 = [] ∨ sa = some ⟨c, 0, none⟩))
    (hr : (ss.getD k s0).2 ≠ [] → CRow W5 c 0 (ss.getD k s0).2 ∧ wr.heap.size ≤ c ∧ ∀ o, W5.frozen? ⟨c, o, none⟩ = false)
    (hown : w7.ownsRow (w.heap.size + 2) 123 2 (.slice (some ⟨w.heap.size + 2, 0, none⟩) (k + 1) n) (k + 1) (flatS U ss k ++ [.int .i64 (ss.getD k s0).1, V])) (hgrow : (W5.alloc tmp).grownBy w7 (some (w.heap.size + 2))) :
    CpSt w n ss (k + 1) (fun j => if j = k then V else U j) (fun j => if j = k then c else cb j) (w7.setCell ⟨w.heap.size + 3, 0, none⟩ (.slice (some ⟨w.heap.size + 2, 0, none⟩) (k + 1) n)) := by
  have hs3 := cell_lt h.b0
  have hs5 := Below.size b5
  have hs7 := hgrow.size
  rw [World.size_alloc] at hs7
  have hb7 : ∀ b, b < W5.heap.size → b ≠ w.heap.size + 2 → w7.heap[b]? = W5.heap[b]? := fun b hb hn => by
    rw [hgrow.block b (by rw [World.size_alloc]; omega) (fun e => by cases e; exact hn rfl)]
    exact ((Below.refl W5.heap.size W5).alloc (Nat.le_refl _) tmp).block b hb
  have hb8 : ∀ b, b < W5.heap.size → b ≠ w.heap.size + 2 → b ≠ w.heap.size + 3 → (w7.setCell ⟨w.heap.size + 3, 0, none⟩ (.slice (some ⟨w.heap.size + 2, 0, none⟩) (k + 1) n)).heap[b]? = W5.heap[b]? := fun b hb hn hn2 => (Below.heap_setCell _ _ _ _ hn2).trans (hb7 b hb hn)
  have hb9 : ∀ b, b < wr.heap.size → b ≠ w.heap.size + 2 → b ≠ w.heap.size + 3 → (w7.setCell ⟨w.heap.size + 3, 0, none⟩ (.slice (some ⟨w.heap.size + 2, 0, none⟩) (k + 1) n)).heap[b]? = wr.heap[b]? := fun b hb hn hn2 => (hb8 b (by omega) hn hn2).trans (Below.block b5 b hb)
  have hc3 : w7.cell? ⟨w.heap.size + 3, 0, none⟩ = some (.slice (some ⟨w.heap.size + 2, 0, none⟩) k n) := (World.cell?_of_block (w := wr) (a := ⟨w.heap.size + 3, 0, none⟩) ((hb7 (w.heap.size + 3) (by omega) (by omega)).trans (Below.block b5 (w.heap.size + 3) (by omega)))).trans h.b0
  have hcell : ∀ {b o v}, w.heap.size + 3 < b → W5.cell? ⟨b, o, none⟩ = some v → (w7.setCell ⟨w.heap.size + 3, 0, none⟩ (.slice (some ⟨w.heap.size + 2, 0, none⟩) (k + 1) n)).cell? ⟨b, o, none⟩ = some v := fun {b o v} hb hc => (World.cell?_of_block (w := W5) (a := ⟨b, o, none⟩) (hb8 b (cell_lt hc) (by omega) (by omega))).trans hc
  refine ⟨⟨?_, ?_, ?_, ?_, fun b hb => ?_⟩, ?_, ?_, ?_, ?_, ?_, fun j hj hne o => ?_, fun j hj => ?_, fun j hj hne => ?_, fun j hj hne => ?_, fun i j hij hj hi hjn => ?_⟩
  · exact hgrow.os.trans (b5.os.trans h.bl.os)
  · exact hgrow.tape.trans (b5.tape.trans h.bl.tape)
  · exact hgrow.output.trans (b5.output.trans h.bl.output)
  · have := Below.size h.bl; simp [World.setCell]; omega
  · exact (hb9 b (by have := Below.size h.bl; omega) (by omega) (by omega)).trans (Below.block h.bl b hb)
  · exact World.cell?_setCell_same _ _ _ hc3
  · rw [flatS, if_pos rfl, flatS_congr (V := U) (fun j hj => if_neg (by omega))]
    exact hown.kept (grownBy_setCell' w7 (w.heap.size + 3) _) (.inr (fun e => by simp [Value.ownBlock] at e))
  · exact (World.cell?_of_block (w := wr) (a := ⟨w.heap.size + 1, 0, none⟩) (hb9 (w.heap.size + 1) (by omega) (by omega) (by omega))).trans h.rs0
  · exact (World.frozen?_of_block (w := wr) (a := ⟨w.heap.size + 1, 0, none⟩) (hb9 (w.heap.size + 1) (by omega) (by omega) (by omega))).trans h.f1
  · rw [World.frozen?_setCell]
    exact (World.frozen?_of_block (w := wr) (a := ⟨w.heap.size + 3, 0, none⟩) ((hb7 (w.heap.size + 3) (by omega) (by omega)).trans (Below.block b5 (w.heap.size + 3) (by omega)))).trans h.f3
  · by_cases e : j = k
    · subst e
      rw [if_pos rfl]
      obtain ⟨r1, r2, r3⟩ := hr hne
      have hlt := cell_lt (r1 0 (List.length_pos_iff.2 hne)).1
      exact (World.frozen?_of_block (w := W5) (a := ⟨c, o, none⟩) (hb8 c hlt (by omega) (by omega))).trans (r3 o)
    · rw [if_neg e]
      have hl := h.lt j (by omega) hne
      exact (World.frozen?_of_block (w := wr) (a := ⟨cb j, o, none⟩) (hb9 (cb j) hl.2 (by omega) (by omega))).trans (h.fzr j (by omega) hne o)
  · by_cases e : j = k
    · subst e; rw [if_pos rfl, if_pos rfl]; exact hV
    · rw [if_neg e, if_neg e]; exact h.us j (by omega)
  · by_cases e : j = k
    · subst e
      rw [if_pos rfl]
      obtain ⟨r1, r2, r3⟩ := hr hne
      exact fun i hi => ⟨hcell (by omega) (r1 i hi).1, hcell (by omega) (r1 i hi).2.1, hcell (by omega) (r1 i hi).2.2⟩
    · rw [if_neg e]
      have hl := h.lt j (by omega) hne
      have hrw := (h.row j (by omega) hne).keep b5
      exact fun i hi => ⟨hcell (by omega) (hrw i hi).1, hcell (by omega) (hrw i hi).2.1, hcell (by omega) (hrw i hi).2.2⟩
  · by_cases e : j = k
    · subst e
      rw [if_pos rfl]
      obtain ⟨r1, r2, r3⟩ := hr hne
      have hlt := cell_lt (r1 0 (List.length_pos_iff.2 hne)).1
      exact ⟨by omega, by simp [World.setCell]; omega⟩
    · rw [if_neg e]
      have hl := h.lt j (by omega) hne
      exact ⟨by omega, by simp [World.setCell]; omega⟩
  · by_cases e : j = k
    · subst e
      rw [if_pos rfl, if_neg (by omega)]
      obtain ⟨r1, r2, r3⟩ := hr hjn
      have hl := h.lt i (by omega) hi
      omega
    · rw [if_neg e, if_neg (by omega)]
      exact h.inc i j hij (by omega) hi hjn
theorem CpSt.done {w : World} {n : Nat} {ss : List St} {U : Nat → Value} {cb : Nat → Nat} {wr : World} (h : CpSt w n ss ss.length U cb wr) (v : Value) : HOwn (wr.setCell ⟨w.heap.size + 1, 0, none⟩ v) w.heap.size (w.heap.size + 2) cb ss := by
  have hs3 := cell_lt h.b0
  have hblk : ∀ b, b ≠ w.heap.size + 1 → (wr.setCell ⟨w.heap.size + 1, 0, none⟩ v).heap[b]? = wr.heap[b]? := fun b hb => Below.heap_setCell _ _ _ _ hb
  have hcell : ∀ {b o x}, b ≠ w.heap.size + 1 → wr.cell? ⟨b, o, none⟩ = some x → (wr.setCell ⟨w.heap.size + 1, 0, none⟩ v).cell? ⟨b, o, none⟩ = some x := fun {b o x} hb hc => (World.cell?_of_block (w := wr) (a := ⟨b, o, none⟩) (hblk b hb)).trans hc
  refine ⟨fun j hj => ?_, fun j hj => ?_, fun j hj hne => ?_, fun o => ?_, fun j hj hne o => ?_, by omega, by simp [World.setCell]; omega, fun j hj hne => ?_, h.inc⟩
  · exact hcell (by omega) ((h.own.cellAt _ (by omega)).trans (flatS_get U ss ss.length j hj).1)
  · obtain ⟨sa, cap, h1, h2⟩ := h.us j hj
    exact ⟨sa, cap, hcell (by omega) (((h.own.cellAt _ (by omega)).trans (flatS_get U ss ss.length j hj).2).trans (by rw [h1])), h2⟩
  · have hl := h.lt j hj hne
    have hrw := h.row j hj hne
    exact fun i hi => ⟨hcell (by omega) (hrw i hi).1, hcell (by omega) (hrw i hi).2.1, hcell (by omega) (hrw i hi).2.2⟩
  · rw [World.frozen?_setCell]; exact h.own.frozenAt o
  · rw [World.frozen?_setCell]; exact h.fzr j hj hne o
  · have := h.lt j hj hne; omega

set_option maxRecDepth 100000 in
set_option maxHeartbeats 2000000 in
theorem copyHeap_any {w : World} {v : Value} {ss : List St} (h : SV w v ss) (hl : SL ss 1048576) :
    Calls Tryz.prog 124 #[.agg #[v]] w fun e w' => ∃ g cb, e = .returned (.agg #[.slice (some ⟨g, 0, none⟩) ss.length ss.length]) ∧ HOwn w' w.heap.size g cb ss ∧ Bel w w' := by
  obtain ⟨i0, hi0, hz0, hz1, hz2⟩ := info_parts info123
  obtain ⟨i6, hi6, hx0, hx1, hx2⟩ := info_parts info66
  obtain ⟨sa, cap, rfl, hx⟩ := h
  have hl1 := hl.1
  have x1 : Ext w ((w.alloc (.cells #[.slice sa ss.length cap] 34)).alloc (.cells #[.slice none 0 0] 34)) := ((Ext.refl w).alloc _ _).alloc _ _
  have hmk := run_make (P := Tryz.prog) ((w.alloc (.cells #[.slice sa ss.length cap] 34)).alloc (.cells #[.slice none 0 0] 34)) 32 123 i0 (.agg #[.int .i64 0, .slice none 0 0]) Tryz.underlying32 hi0 hz0 .i64 .i64 0 ss.length (by omega) (by omega) (by rw [hz2]; omega) (by omega)
  simp only [Int.toNat_natCast] at hmk
  have hs2 : ((w.alloc (.cells #[.slice sa ss.length cap] 34)).alloc (.cells #[.slice none 0 0] 34)).heap.size = w.heap.size + 1 + 1 := by simp
  have S0 : Hid (CpSt w ss.length ss 0 (fun _ => .slice none 0 0) (fun _ => 0) ((((w.alloc (.cells #[.slice sa ss.length cap] 34)).alloc (.cells #[.slice none 0 0] 34)).alloc (.cells (madeCells #[.int .i64 0, .slice none 0 0] (ss.length * 2)) 123)).alloc (.cells #[.slice (some ⟨w.heap.size + 1 + 1, 0, none⟩) 0 ss.length] 34))) := by
    have x3 : Ext ((w.alloc (.cells #[.slice sa ss.length cap] 34)).alloc (.cells #[.slice none 0 0] 34)) ((((w.alloc (.cells #[.slice sa ss.length cap] 34)).alloc (.cells #[.slice none 0 0] 34)).alloc (.cells (madeCells #[.int .i64 0, .slice none 0 0] (ss.length * 2)) 123)).alloc (.cells #[.slice (some ⟨w.heap.size + 1 + 1, 0, none⟩) 0 ss.length] 34)) := ((Ext.refl _).alloc _ _).alloc _ _
    refine ⟨(x1.trans x3).bl, ?_, ?_, ?_, (x1.trans x3).unfrozen (by omega) 0, (x1.trans x3).unfrozen (by omega) 0, fun j hj => by omega, fun j hj => by omega, fun j hj => by omega, fun j hj => by omega, fun i j h1 h2 => by omega⟩
    · exact new_cell _ #[.slice (some ⟨w.heap.size + 1 + 1, 0, none⟩) 0 ss.length] 34 (w.heap.size + 3) (by simp) 0
    · refine World.ownsRow.alloc ?_ _
      have h := World.ownsRow_made (base := w.heap.size + 2) (e := 123) (size := 2) ((w.alloc (.cells #[.slice sa ss.length cap] 34)).alloc (.cells #[.slice none 0 0] 34)) (madeCells #[.int .i64 0, .slice none 0 0] (ss.length * 2)) ss.length (by rw [hs2]; omega) (by unfold maxLen; omega) (by simp [madeCells])
      rw [hs2] at h
      exact h
    · exact x3.box (new_cell (w.alloc (.cells #[.slice sa ss.length cap] 34)) #[.slice none 0 0] 34 (w.heap.size + 1) (by simp) 0)
  have HX := hide hx
  have HL := hide hl
  clear hx hl x1 hs2
  go_enter Tryz.func124, Tryz.ntmps124
  go_wp2_with fail
  clear hmk
  generalize ((((w.alloc (.cells #[.slice sa ss.length cap] 34)).alloc (.cells #[.slice none 0 0] 34)).alloc (.cells (madeCells #[.int .i64 0, .slice none 0 0] (ss.length * 2)) 123)).alloc (.cells #[.slice (some ⟨w.heap.size + 1 + 1, 0, none⟩) 0 ss.length] 34)) = W2 at S0 ⊢
  go_loopw [14] (fun i wr => ∃ (k : Nat) (U : Nat → Value) (cb : Nat → Nat), i = .int .i64 k ∧ k ≤ ss.length ∧ CpSt w ss.length ss k U cb wr) (fun i _ => ss.length - (intOf i).toNat)
  case atStart => exact ⟨0, _, _, rfl, by omega, S0.out⟩
  case round =>
    obtain ⟨k, U, cb, rfl, hk, hC⟩ := hrel
    have HC := hide hC
    clear S0
    by_cases hlt : k < ss.length
    · rcases HX.out with h0 | ⟨b, off, rfl, hrow⟩
      · rw [h0] at hlt; simp at hlt
      obtain ⟨q0, u, q1, q2⟩ := (hrow.keep hC.bl) k hlt
      have hcl := HL.out.at k hlt
      have hk0 : (0 : Int) ≤ (k : Int) := Int.natCast_nonneg _
      have hk1 : (k : Int) < (ss.length : Int) := by omega
      have Q2 := hide q2
      have c3 := hC.b0
      generalize hD : (ss.getD k s0).1 = D at q0
      generalize hcs : (ss.getD k s0).2 = cs at q2 hcl Q2
      have HD := hide hD
      have Hcs := hide hcs
      clear hrow hD hcs q2
      obtain ⟨su, cu, rfl, hcv⟩ := Q2.out
      clear hC
      have xb : Ext wr (wr.alloc (.cells #[.int .i64 D, .slice su cs.length cu] 123)) := (Ext.refl wr).alloc _ _
      have nb := fun j => new_cell wr #[.int .i64 D, .slice su cs.length cu] 123 wr.heap.size rfl j
      have HS : Hid (∀ W', Bel (wr.alloc (.cells #[.int .i64 D, .slice su cs.length cu] 123)) W' → (fun w' => w'.cell? ⟨w.heap.size + 1 + 1 + 1, 0, none⟩ = some (.slice (some ⟨w.heap.size + 1 + 1, 0, none⟩) k ss.length) ∧ w'.cell? ⟨wr.heap.size, 0, none⟩ = some (.int .i64 D) ∧ w'.cell? ⟨wr.heap.size, 1, none⟩ = some (.slice su cs.length cu)) W') := fun W' h => ⟨Bel.box h (xb.box c3), Bel.box h (nb 0), Bel.box h (nb 1)⟩
      have HB0 : Hid (Bel (wr.alloc (.cells #[.int .i64 D, .slice su cs.length cu] 123)) ((wr.alloc (.cells #[.int .i64 D, .slice su cs.length cu] 123))).drew) := (Below.refl _ _).drew
      have SA := hide (HS.out _ HB0.out)
      have XB := hide xb.bl
      have hsb : ((wr.alloc (.cells #[.int .i64 D, .slice su cs.length cu] 123))).heap.size = wr.heap.size + 1 := by simp
      have Hsb := hide hsb
      clear xb nb hsb c3
      go_wp2_with fail
      generalize hBX : (wr.alloc (.cells #[.int .i64 D, .slice su cs.length cu] 123)) = BX at *
      have HNW : Hid (∀ (W : World) (V : Value), ∀ j u, ([.int .i64 D, V] : List Value)[j]? = some u → (W.alloc (.cells #[.int .i64 D, V] 123)).cell? ((⟨W.heap.size, 0, none⟩ : Addr).add j) = some u) := fun W V j u hj => by
        rw [Addr.add_lit, Nat.zero_add, new_cell W _ 123 _ rfl j]
        simpa using hj
      rcases Classical.em (cs = []) with h0 | h0
      · subst h0
        refine region_u (S := (fun w' : World => w'.cell? ⟨w.heap.size + 1 + 1 + 1, 0, none⟩ = some (.slice (some ⟨w.heap.size + 1 + 1, 0, none⟩) k ss.length) ∧ w'.cell? ⟨wr.heap.size, 0, none⟩ = some (.int .i64 D) ∧ w'.cell? ⟨wr.heap.size, 1, none⟩ = some (.slice su 0 cu))) (late := [12]) (by kernel_rfl) ?_
        refine wpAnyU_take (i := 0) (v := .pointer (some ⟨w.heap.size + 1 + 1 + 1, 0, none⟩)) rfl (by kernel_rfl) (by kernel_rfl) (fun _ _ _ h => by cases h.1) _ (by kernel_rfl) (by kernel_rfl) (Or.inl ⟨by rfl, ?_⟩) SA.out ?_
        · intro w' hSw
          obtain ⟨z0, z1, z2⟩ := hSw
          go_simp
        simp only [Act.put, List.setIfInBounds_toArray, List.set_cons_zero, List.set_cons_succ]
        refine wpAnyU_take (i := 1) (v := .slice (some ⟨w.heap.size + 1 + 1, 0, none⟩) k ss.length) rfl (by kernel_rfl) (by kernel_rfl) (fun _ _ _ h => by cases h.1) _ (by kernel_rfl) (by kernel_rfl) (Or.inl ⟨by rfl, ?_⟩) SA.out ?_
        · intro w' hSw
          obtain ⟨z0, z1, z2⟩ := hSw
          go_simp
        simp only [Act.put, List.setIfInBounds_toArray, List.set_cons_zero, List.set_cons_succ]
        refine wpAnyU_take (i := 2) (v := .pointer (some ⟨wr.heap.size, 0, none⟩)) rfl (by kernel_rfl) (by kernel_rfl) (fun _ _ _ h => by cases h.1) _ (by kernel_rfl) (by kernel_rfl) (Or.inl ⟨by rfl, ?_⟩) SA.out ?_
        · intro w' hSw
          obtain ⟨z0, z1, z2⟩ := hSw
          go_simp
        simp only [Act.put, List.setIfInBounds_toArray, List.set_cons_zero, List.set_cons_succ]
        refine wpAnyU_take (i := 3) (v := .int .i64 D) rfl (by kernel_rfl) (by kernel_rfl) (fun _ _ _ h => by cases h.1) _ (by kernel_rfl) (by kernel_rfl) (Or.inl ⟨by rfl, ?_⟩) SA.out ?_
        · intro w' hSw
          obtain ⟨z0, z1, z2⟩ := hSw
          go_simp
        simp only [Act.put, List.setIfInBounds_toArray, List.set_cons_zero, List.set_cons_succ]
        refine wpAnyU_take (i := 5) (v := .pointer (some ⟨wr.heap.size, 1, none⟩)) rfl (by kernel_rfl) (by kernel_rfl) (fun _ _ _ h => by cases h.1) _ (by kernel_rfl) (by kernel_rfl) (Or.inl ⟨by rfl, ?_⟩) SA.out ?_
        · intro w' hSw
          obtain ⟨z0, z1, z2⟩ := hSw
          go_simp
        simp only [Act.put, List.setIfInBounds_toArray, List.set_cons_zero, List.set_cons_succ]
        refine wpAnyU_take (i := 6) (v := .slice su 0 cu) rfl (by kernel_rfl) (by kernel_rfl) (fun _ _ _ h => by cases h.1) _ (by kernel_rfl) (by kernel_rfl) (Or.inl ⟨by rfl, ?_⟩) SA.out ?_
        · intro w' hSw
          obtain ⟨z0, z1, z2⟩ := hSw
          go_simp
        simp only [Act.put, List.setIfInBounds_toArray, List.set_cons_zero, List.set_cons_succ]
        refine wpAnyU_one (i := 4) (by kernel_rfl) rfl (fun K hK => ?_)
        go_simp
        refine hK.out _ _ (fun _ => HS.out _ (Below.alloc HB0.out HB0.out.size _)) ?_
        clear hK K
        try simp only [Act.put, List.setIfInBounds_toArray, List.set_cons_zero, List.set_cons_succ]
        have HBL : Hid (Bel BX (BX.alloc (.cells #[] 66)).drew) := Below.alloc HB0.out HB0.out.size (.cells #[] 66)
        refine wpAnyU_one (i := 7) (by kernel_rfl) rfl (fun K hK => ?_)
        refine step_append_zero (by rfl) (.tmp 22) (.tmp 24) 61 (by rfl) 66 i6 Tryz.underlying61 hi6 ⟨BX.heap.size, 0, none⟩ 0 0 (by omega) (by rfl) su cu (by rfl) ?_
        refine hK.out _ _ (fun _ => HS.out _ HBL.out) ?_
        clear hK K
        try simp only [Act.put, List.setIfInBounds_toArray, List.set_cons_zero, List.set_cons_succ]
        generalize hW5 : (BX.alloc (.cells #[] 66)).drew = W5 at HBL ⊢
        have hB5 : BX.heap.size + 1 = W5.heap.size := by rw [← hW5]; simp [World.drew]
        clear hW5
        refine wpAnyU_take (i := 8) (v := .agg #[.int .i64 D, .slice (some ⟨BX.heap.size, 0, none⟩) 0 0]) rfl (by kernel_rfl) (by kernel_rfl) (fun _ _ _ h => by cases h.1) _ (by kernel_rfl) (by kernel_rfl) (Or.inl ⟨by rfl, ?_⟩) (HS.out _ HBL.out) ?_
        · intro w' hSw
          obtain ⟨z0, z1, z2⟩ := hSw
          go_simp
        simp only [Act.put, List.setIfInBounds_toArray, List.set_cons_zero, List.set_cons_succ]
        refine wpAnyU_one (i := 9) (by kernel_rfl) rfl (fun K hK => ?_)
        go_simp
        refine hK.out _ _ (fun _ => HS.out _ (Below.alloc HBL.out HBL.out.size _)) ?_
        clear hK K
        try simp only [Act.put, List.setIfInBounds_toArray, List.set_cons_zero, List.set_cons_succ]
        refine wpAnyU_one (i := 10) (by kernel_rfl) rfl (fun K hK => ?_)
        refine step_append_fits (by rfl) (.tmp 19) (.tmp 27) 32 (by rfl) (w.heap.size + 2) 123 i0 2 Tryz.underlying32 hi0 hz1 (w.heap.size + 2) k ss.length (flatS U ss k) (by rfl) ((own_bel HC.out.own (Bel.tr XB.out HBL.out)).alloc _) ⟨W5.heap.size, 0, none⟩ 1 1 [.int .i64 D, .slice (some ⟨BX.heap.size, 0, none⟩) 0 0] (by rfl) (by rfl) (HNW.out _ _) (by simp [Value.oneCell']) (by omega) ?_
        intro w7 hown7 hgrow7
        have S7 : Hid ((fun w' : World => w'.cell? ⟨w.heap.size + 1 + 1 + 1, 0, none⟩ = some (.slice (some ⟨w.heap.size + 1 + 1, 0, none⟩) k ss.length) ∧ w'.cell? ⟨wr.heap.size, 0, none⟩ = some (.int .i64 D) ∧ w'.cell? ⟨wr.heap.size, 1, none⟩ = some (.slice su 0 cu)) w7) := ⟨grown_box hgrow7 (by omega) (HS.out _ (Below.alloc HBL.out HBL.out.size _)).1, grown_box hgrow7 (by have := cell_lt HC.out.b0; omega) (HS.out _ (Below.alloc HBL.out HBL.out.size _)).2.1, grown_box hgrow7 (by have := cell_lt HC.out.b0; omega) (HS.out _ (Below.alloc HBL.out HBL.out.size _)).2.2⟩
        have c7 : w7.cell? ⟨w.heap.size + 1 + 1 + 1, 0, none⟩ = some (.slice (some ⟨w.heap.size + 1 + 1, 0, none⟩) k ss.length) := S7.out.1
        have f7 : w7.frozen? ⟨w.heap.size + 1 + 1 + 1, 0, none⟩ = false := by
          have h3 := cell_lt HC.out.b0
          have h5 := (Bel.tr XB.out HBL.out).size
          have e1 := hgrow7.block (w.heap.size + 3) (by rw [World.size_alloc]; omega) (by simp)
          have e2 := (Below.alloc (Bel.tr XB.out HBL.out) (Bel.tr XB.out HBL.out).size (.cells #[.int .i64 D, .slice (some ⟨BX.heap.size, 0, none⟩) 0 0] 123)).block (w.heap.size + 3) h3
          exact (World.frozen?_of_block (w := wr) (a := ⟨w.heap.size + 3, 0, none⟩) (e1.trans e2)).trans HC.out.f3
        refine hK.out _ _ (fun _ => S7.out) ?_
        clear hK K
        try simp only [Act.put, List.setIfInBounds_toArray, List.set_cons_zero, List.set_cons_succ]
        have HST := hide (HC.out.step (Bel.tr XB.out HBL.out) (.slice (some ⟨BX.heap.size, 0, none⟩) 0 0) 0 (⟨_, _, by rw [Hcs.out]; rfl, Or.inl Hcs.out⟩) (fun hne => absurd Hcs.out hne) (by rw [HD.out]; exact hown7) hgrow7)
        clear hown7 hgrow7
        refine wpAnyU_take (i := 11) (v := .pointer (some ⟨w.heap.size + 1 + 1 + 1, 0, none⟩)) rfl (by kernel_rfl) (by kernel_rfl) (fun _ _ _ h => by cases h.1) _ (by kernel_rfl) (by kernel_rfl) (Or.inl ⟨by rfl, ?_⟩) S7.out ?_
        · intro w' hSw
          obtain ⟨z0, z1, z2⟩ := hSw
          go_simp
        simp only [Act.put, List.setIfInBounds_toArray, List.set_cons_zero, List.set_cons_succ]
        refine wpAnyU_one (i := 12) (by kernel_rfl) rfl (fun K hK => ?_)
        go_simp
        refine hK.out _ _ (fun h => absurd h (by decide)) ?_
        clear hK K
        try simp only [Act.put, List.setIfInBounds_toArray, List.set_cons_zero, List.set_cons_succ]
        refine wpAnyU_done (by kernel_rfl) ?_ _
        refine ⟨rfl, ?_⟩
        go_wp2_with fail
        go_roundw
        · exact ⟨k + 1, _, _, by go_num, by omega, HST.out⟩
        · simp [intOf]; omega
      · have hpos : 0 < cs.length := List.length_pos_iff.2 h0
        obtain ⟨bc, oc, rfl, hcr⟩ := hcv.resolve_left h0
        have HNC : Hid (∀ W : World, Bel wr W → ∀ j u, (flat cs)[j]? = some u → W.cell? ((⟨bc, oc, none⟩ : Addr).add j) = some u) := fun W hW j u hj => by
          rw [Addr.add_lit]
          exact crow_flat (hcr.keep hW) j u hj
        refine region_u (S := (fun w' : World => w'.cell? ⟨w.heap.size + 1 + 1 + 1, 0, none⟩ = some (.slice (some ⟨w.heap.size + 1 + 1, 0, none⟩) k ss.length) ∧ w'.cell? ⟨wr.heap.size, 0, none⟩ = some (.int .i64 D) ∧ w'.cell? ⟨wr.heap.size, 1, none⟩ = some (.slice (some ⟨bc, oc, none⟩) cs.length cu))) (late := [12]) (by kernel_rfl) ?_
        refine wpAnyU_take (i := 0) (v := .pointer (some ⟨w.heap.size + 1 + 1 + 1, 0, none⟩)) rfl (by kernel_rfl) (by kernel_rfl) (fun _ _ _ h => by cases h.1) _ (by kernel_rfl) (by kernel_rfl) (Or.inl ⟨by rfl, ?_⟩) SA.out ?_
        · intro w' hSw
          obtain ⟨z0, z1, z2⟩ := hSw
          go_simp
        simp only [Act.put, List.setIfInBounds_toArray, List.set_cons_zero, List.set_cons_succ]
        refine wpAnyU_take (i := 1) (v := .slice (some ⟨w.heap.size + 1 + 1, 0, none⟩) k ss.length) rfl (by kernel_rfl) (by kernel_rfl) (fun _ _ _ h => by cases h.1) _ (by kernel_rfl) (by kernel_rfl) (Or.inl ⟨by rfl, ?_⟩) SA.out ?_
        · intro w' hSw
          obtain ⟨z0, z1, z2⟩ := hSw
          go_simp
        simp only [Act.put, List.setIfInBounds_toArray, List.set_cons_zero, List.set_cons_succ]
        refine wpAnyU_take (i := 2) (v := .pointer (some ⟨wr.heap.size, 0, none⟩)) rfl (by kernel_rfl) (by kernel_rfl) (fun _ _ _ h => by cases h.1) _ (by kernel_rfl) (by kernel_rfl) (Or.inl ⟨by rfl, ?_⟩) SA.out ?_
        · intro w' hSw
          obtain ⟨z0, z1, z2⟩ := hSw
          go_simp
        simp only [Act.put, List.setIfInBounds_toArray, List.set_cons_zero, List.set_cons_succ]
        refine wpAnyU_take (i := 3) (v := .int .i64 D) rfl (by kernel_rfl) (by kernel_rfl) (fun _ _ _ h => by cases h.1) _ (by kernel_rfl) (by kernel_rfl) (Or.inl ⟨by rfl, ?_⟩) SA.out ?_
        · intro w' hSw
          obtain ⟨z0, z1, z2⟩ := hSw
          go_simp
        simp only [Act.put, List.setIfInBounds_toArray, List.set_cons_zero, List.set_cons_succ]
        refine wpAnyU_take (i := 5) (v := .pointer (some ⟨wr.heap.size, 1, none⟩)) rfl (by kernel_rfl) (by kernel_rfl) (fun _ _ _ h => by cases h.1) _ (by kernel_rfl) (by kernel_rfl) (Or.inl ⟨by rfl, ?_⟩) SA.out ?_
        · intro w' hSw
          obtain ⟨z0, z1, z2⟩ := hSw
          go_simp
        simp only [Act.put, List.setIfInBounds_toArray, List.set_cons_zero, List.set_cons_succ]
        refine wpAnyU_take (i := 6) (v := .slice (some ⟨bc, oc, none⟩) cs.length cu) rfl (by kernel_rfl) (by kernel_rfl) (fun _ _ _ h => by cases h.1) _ (by kernel_rfl) (by kernel_rfl) (Or.inl ⟨by rfl, ?_⟩) SA.out ?_
        · intro w' hSw
          obtain ⟨z0, z1, z2⟩ := hSw
          go_simp
        simp only [Act.put, List.setIfInBounds_toArray, List.set_cons_zero, List.set_cons_succ]
        refine wpAnyU_one (i := 4) (by kernel_rfl) rfl (fun K hK => ?_)
        go_simp
        refine hK.out _ _ (fun _ => HS.out _ (Below.alloc HB0.out HB0.out.size _)) ?_
        clear hK K
        try simp only [Act.put, List.setIfInBounds_toArray, List.set_cons_zero, List.set_cons_succ]
        have HBL : Hid (Bel BX (BX.alloc (.cells #[] 66)).drew) := Below.alloc HB0.out HB0.out.size (.cells #[] 66)
        refine wpAnyU_one (i := 7) (by kernel_rfl) rfl (fun K hK => ?_)
        refine step_append_lies _ (by rfl) (.tmp 22) (.tmp 24) 61 (by rfl) BX.heap.size 66 i6 (.agg #[.int .i64 0, .float .f64 0, .float .f64 0]) 3 24 Tryz.underlying61 hi6 hx0 hx1 hx2 rfl (by decide) (.slice (some ⟨BX.heap.size, 0, none⟩) 0 0) 0 [] (by rfl) (World.ownsRow_lit (base := BX.heap.size) (e := 66) (size := 3) BX.drew #[] 0 (Nat.le_refl _) (by unfold maxLen; omega) (by simp)) ⟨bc, oc, none⟩ cs.length cu (flat cs) (by rfl) (flatC_len cs) (HNC.out _ (Bel.tr XB.out HBL.out)) (flat_one' cs) hpos (by unfold maxLen; omega) (by omega) (by simp) (BX.heap.size + 1) (by simp) ?_
        intro g5 cap5 W5 hown5 hgrow5 hat5 hlt5
        have HBL5 : Hid (Bel BX W5) := Below.grown HBL.out hgrow5 (by have := HBL.out.size; omega) (fun j hj => by simp [Value.ownBlock] at hj; omega)
        rw [Nat.zero_add, List.nil_append] at hown5
        have HO5 := hide hown5
        clear hown5 hgrow5 hat5 hlt5 HBL
        refine hK.out _ _ (fun _ => HS.out _ HBL5.out) ?_
        clear hK K
        try simp only [Act.put, List.setIfInBounds_toArray, List.set_cons_zero, List.set_cons_succ]
        have HBL := HBL5
        clear HBL5
        refine wpAnyU_take (i := 8) (v := .agg #[.int .i64 D, .slice (some ⟨g5, 0, none⟩) cs.length cap5]) rfl (by kernel_rfl) (by kernel_rfl) (fun _ _ _ h => by cases h.1) _ (by kernel_rfl) (by kernel_rfl) (Or.inl ⟨by rfl, ?_⟩) (HS.out _ HBL.out) ?_
        · intro w' hSw
          obtain ⟨z0, z1, z2⟩ := hSw
          go_simp
        simp only [Act.put, List.setIfInBounds_toArray, List.set_cons_zero, List.set_cons_succ]
        refine wpAnyU_one (i := 9) (by kernel_rfl) rfl (fun K hK => ?_)
        go_simp
        refine hK.out _ _ (fun _ => HS.out _ (Below.alloc HBL.out HBL.out.size _)) ?_
        clear hK K
        try simp only [Act.put, List.setIfInBounds_toArray, List.set_cons_zero, List.set_cons_succ]
        refine wpAnyU_one (i := 10) (by kernel_rfl) rfl (fun K hK => ?_)
        refine step_append_fits (by rfl) (.tmp 19) (.tmp 27) 32 (by rfl) (w.heap.size + 2) 123 i0 2 Tryz.underlying32 hi0 hz1 (w.heap.size + 2) k ss.length (flatS U ss k) (by rfl) ((own_bel HC.out.own (Bel.tr XB.out HBL.out)).alloc _) ⟨W5.heap.size, 0, none⟩ 1 1 [.int .i64 D, .slice (some ⟨g5, 0, none⟩) cs.length cap5] (by rfl) (by rfl) (HNW.out _ _) (by simp [Value.oneCell']) (by omega) ?_
        intro w7 hown7 hgrow7
        have S7 : Hid ((fun w' : World => w'.cell? ⟨w.heap.size + 1 + 1 + 1, 0, none⟩ = some (.slice (some ⟨w.heap.size + 1 + 1, 0, none⟩) k ss.length) ∧ w'.cell? ⟨wr.heap.size, 0, none⟩ = some (.int .i64 D) ∧ w'.cell? ⟨wr.heap.size, 1, none⟩ = some (.slice (some ⟨bc, oc, none⟩) cs.length cu)) w7) := ⟨grown_box hgrow7 (by omega) (HS.out _ (Below.alloc HBL.out HBL.out.size _)).1, grown_box hgrow7 (by have := cell_lt HC.out.b0; omega) (HS.out _ (Below.alloc HBL.out HBL.out.size _)).2.1, grown_box hgrow7 (by have := cell_lt HC.out.b0; omega) (HS.out _ (Below.alloc HBL.out HBL.out.size _)).2.2⟩
        have c7 : w7.cell? ⟨w.heap.size + 1 + 1 + 1, 0, none⟩ = some (.slice (some ⟨w.heap.size + 1 + 1, 0, none⟩) k ss.length) := S7.out.1
        have f7 : w7.frozen? ⟨w.heap.size + 1 + 1 + 1, 0, none⟩ = false := by
          have h3 := cell_lt HC.out.b0
          have h5 := (Bel.tr XB.out HBL.out).size
          have e1 := hgrow7.block (w.heap.size + 3) (by rw [World.size_alloc]; omega) (by simp)
          have e2 := (Below.alloc (Bel.tr XB.out HBL.out) (Bel.tr XB.out HBL.out).size (.cells #[.int .i64 D, .slice (some ⟨g5, 0, none⟩) cs.length cap5] 123)).block (w.heap.size + 3) h3
          exact (World.frozen?_of_block (w := wr) (a := ⟨w.heap.size + 3, 0, none⟩) (e1.trans e2)).trans HC.out.f3
        refine hK.out _ _ (fun _ => S7.out) ?_
        clear hK K
        try simp only [Act.put, List.setIfInBounds_toArray, List.set_cons_zero, List.set_cons_succ]
        have HST := hide (HC.out.step (Bel.tr XB.out HBL.out) (.slice (some ⟨g5, 0, none⟩) cs.length cap5) g5 (⟨_, _, by rw [Hcs.out], Or.inr rfl⟩) (fun _ => by rw [Hcs.out]; exact ⟨crow_of_own HO5.out rfl, Nat.le_trans (by rw [Hsb.out]; omega) (own_lo HO5.out hpos), fun o => HO5.out.frozenAt o⟩) (by rw [HD.out]; exact hown7) hgrow7)
        clear hown7 hgrow7
        refine wpAnyU_take (i := 11) (v := .pointer (some ⟨w.heap.size + 1 + 1 + 1, 0, none⟩)) rfl (by kernel_rfl) (by kernel_rfl) (fun _ _ _ h => by cases h.1) _ (by kernel_rfl) (by kernel_rfl) (Or.inl ⟨by rfl, ?_⟩) S7.out ?_
        · intro w' hSw
          obtain ⟨z0, z1, z2⟩ := hSw
          go_simp
        simp only [Act.put, List.setIfInBounds_toArray, List.set_cons_zero, List.set_cons_succ]
        refine wpAnyU_one (i := 12) (by kernel_rfl) rfl (fun K hK => ?_)
        go_simp
        refine hK.out _ _ (fun h => absurd h (by decide)) ?_
        clear hK K
        try simp only [Act.put, List.setIfInBounds_toArray, List.set_cons_zero, List.set_cons_succ]
        refine wpAnyU_done (by kernel_rfl) ?_ _
        refine ⟨rfl, ?_⟩
        go_wp2_with fail
        go_roundw
        · exact ⟨k + 1, _, _, by go_num, by omega, HST.out⟩
        · simp [intOf]; omega
    · have hkk : k = ss.length := by omega
      subst hkk
      have c1 := HC.out.rs0
      have f1 := HC.out.f1
      have c3 := HC.out.b0
      clear hC
      go_wp2
      refine bodyPost_ret (v := .agg #[.slice (some ⟨w.heap.size + 2, 0, none⟩) ss.length ss.length]) (by simp [results, Tryz.results124, go_sem, c1]) rfl ⟨_, cb, rfl, HC.out.done _, HC.out.bl.setCell (p := ⟨w.heap.size + 1, 0, none⟩) (by show _ ≤ w.heap.size + 1; omega) _⟩
end Go.Proofs.YtfhcpicddegblaaGreat
