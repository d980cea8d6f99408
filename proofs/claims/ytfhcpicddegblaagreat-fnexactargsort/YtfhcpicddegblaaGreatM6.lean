import Derived.Test.YtfhcpicddegblaaGreatM5
import Derived.Deep.AppendLies
import Derived.Deep.RegionHeld3
import Derived.Laws.IdiomCopy
import Derived.RegionTactic
import Derived.BigRegion
import Derived.Test.YtfhcpicddegblaaGreatM4
import Derived.Deep.OwnRows
import Derived.Test.YtfhcpicddegblaaGreatM1
set_option linter.unusedSimpArgs false
set_option linter.unusedVariables false
set_option maxRecDepth 100000
set_option maxHeartbeats 8000000
namespace Go.Proofs.YtfhcpicddegblaaGreat
open List renaming setIfInBounds_toArray → sT, set_cons_zero → sZ, set_cons_succ → sS
open Go.Value renaming int → O, slice → σ, pointer → π, agg → γ
open Go.IntKind renaming i64 → ι
open Go.Obj renaming cells → χ
open Go.Act renaming put → aP
section
open Go.ChangeShapes Go.RowKit FL
structure HOwn (w : World) (lo g : Nat) (cb : Nat → Nat) (ss : List St) : Prop where
 dt : ∀ j, j < ss.length → w.cell? ⟨g, j * 2, none⟩ = some (O ι (ss.getD j s0).1)
 sl : ∀ j, j < ss.length → ∃ sa cap, w.cell? ⟨g, j * 2 + 1, none⟩ = some (σ sa (ss.getD j s0).2.length cap) ∧ ((ss.getD j s0).2 = [] ∨ sa = some ⟨cb j, 0, none⟩)
 row : ∀ j, j < ss.length → (ss.getD j s0).2 ≠ [] → CRow w (cb j) 0 (ss.getD j s0).2
 fz : ∀ o, w.frozen? ⟨g, o, none⟩ = false
 fzr : ∀ j, j < ss.length → (ss.getD j s0).2 ≠ [] → ∀ o, w.frozen? ⟨cb j, o, none⟩ = false
 lo_g : lo ≤ g
 g_lt : g < w.heap.size
 g_cb : ∀ j, j < ss.length → (ss.getD j s0).2 ≠ [] → g < cb j
 inc : ∀ i j, i < j → j < ss.length → (ss.getD i s0).2 ≠ [] → (ss.getD j s0).2 ≠ [] → cb i < cb j
theorem HOwn.sv {w : World} {lo g cap : Nat} {cb : Nat → Nat} {ss : List St} (h : HOwn w lo g cb ss) : SV w (σ (some ⟨g, 0, none⟩) ss.length cap) ss := by
 refine ⟨_, cap, rfl, Or.inr ⟨g, 0, rfl, fun j hj => ?_⟩⟩
 rw [Nat.zero_add]
 obtain ⟨sa, cp, h1, h2⟩ := h.sl j hj
 refine ⟨h.dt j hj, _, h1, sa, cp, rfl, ?_⟩
 by_cases e : (ss.getD j s0).2 = []
 ·exact Or.inl e
 ·exact Or.inr ⟨cb j, 0, h2.resolve_left e, h.row j hj e⟩
def flatS (U : Nat → Value) (ss : List St) : Nat → List Value
 | 0 => []
 | k + 1 => flatS U ss k ++ [O ι (ss.getD k s0).1, U k]
theorem zt11 (U : Nat → Value) (ss : List St) (k : Nat) : (flatS U ss k).length = k * 2 := by
 induction k with
 | zero => rfl
 | succ k ih => rw [flatS, List.length_append, ih]; simp; omega
theorem zp7 {U V : Nat → Value} {ss : List St} {k : Nat} (h : ∀ j, j < k → U j = V j) : flatS U ss k = flatS V ss k := by
 induction k with
 | zero => rfl
 | succ k ih => rw [flatS, flatS, ih (fun j hj => h j (by omega)), h k (by omega)]
theorem zz4 (U : Nat → Value) (ss : List St) (k j : Nat) (h : j < k) : (flatS U ss k)[j * 2]? = some (O ι (ss.getD j s0).1) ∧ (flatS U ss k)[j * 2 + 1]? = some (U j) := by
 induction k with
 | zero => omega
 | succ k ih =>
  rw [flatS]
  by_cases e : j = k
  ·subst e
   have hl := zt11 U ss j
   rw [List.getElem?_append_right (by omega), List.getElem?_append_right (by omega), hl]
   exact ⟨by simp, by simp⟩
  ·have hl := zt11 U ss k
   rw [List.getElem?_append_left (by omega), List.getElem?_append_left (by omega)]
   exact ih (by omega)
theorem zk3 {w w' : World} {base e size n : Nat} {v : Value} {xs : List Value} (h : w.ownsRow base e size v n xs) (x : Bel w w') : w'.ownsRow base e size v n xs := by
 refine ⟨h.1, ?_⟩
 rcases h.2 with h | ⟨g, cap, cur, rfl, h1, h2, h3⟩
 ·exact Or.inl h
 ·exact Or.inr ⟨g, cap, cur, rfl, h1, by rw [Below.block x g (Array.getElem?_eq_some_iff.1 h2).1]; exact h2, h3⟩
theorem zv5 {P : Program} {w : World} {ops : Array Oper} {o : Oper} {a : Act} {K : Act → World → Prop} {Q : Exit → Act → World → Prop} {E : Prop}
  (hg : o.guard = none) (s x : Operand) (t : TypeId) (hop : o.op = Op.call { callee := Callee.builtin Builtin.append, args := #[s, x], argTypes := #[t, t] })
  (e : TypeId) (i : TypeInfo) (h1 : P.underlying t = some (.slice e)) (h2 : P.info? e = some i)
  (p : Addr) (k cap : Nat) (hk : k ≤ cap) (hs : a.eval s = σ (some p) k cap) (sa : Option Addr) (c : Nat) (hx : a.eval x = σ sa 0 c)
  (hK : K (a.put o.dst (σ (some p) k cap)) w) :
  if Region.wanted o (yielded ops a.tmps) = true then Oper.wp P o a w K Q else E := by
 have hw : Region.wanted o (yielded ops a.tmps) = true := by simp [Region.wanted, hg]
 rw [if_pos hw]
 have hl : ∀ (x : Addr), (loadCells x 0).run P w = .ok #[] w := fun x => by simpa using run_loadCells_list (P := P) w x [] (by simp)
 have hr : (Builtin.append_ #[t, t] o.type #[σ (some p) k cap, σ sa 0 c]).run P w = .ok (σ (some p) k cap) w := by
  cases sa <;> simp [Builtin.append_, run_underlying h1, sizeOf, typeInfo, h2, Builtin.lenOf, Builtin.firstCells, hk, storeCells, hl]
 unfold Oper.wp execOp
 simp only [hop, resolve, invoke, builtin, Sem.run_bind, Sem.run_pure, Result.andThen_ok, List.map_toArray, List.map_cons, List.map_nil, hs, hx, hr]
 exact hK
theorem zf12 {w : World} {b off : Nat} {cs : List C3} (h : CRow w b off cs) (j : Nat) (u : Value) (hj : (flat cs)[j]? = some u) : w.cell? ⟨b, off + j, none⟩ = some u := by
 have hl : j < cs.length * 3 := by rw [← za5]; exact (List.getElem?_eq_some_iff.1 hj).1
 obtain ⟨a, b', c⟩ := h (j / 3) (by omega)
 obtain ⟨p, q, r⟩ := zs15 cs (j / 3) (by omega)
 have hm : j % 3 = 0 ∨ j % 3 = 1 ∨ j % 3 = 2 := by omega
 rcases hm with e | e | e
 ·rw [show j = j / 3 * 3 by omega] at hj ⊢
  rw [p] at hj
  rw [← hj]
  exact a
 ·rw [show j = j / 3 * 3 + 1 by omega] at hj ⊢
  rw [q] at hj
  rw [← hj, ← Nat.add_assoc]
  exact b'
 ·rw [show j = j / 3 * 3 + 2 by omega] at hj ⊢
  rw [r] at hj
  rw [← hj, ← Nat.add_assoc]
  exact c
theorem flat_one' (cs : List C3) : ∀ u ∈ flat cs, u.oneCell' = true := by
 induction cs with
 | nil => intro u hu; cases hu
 | cons c cs ih =>
  intro u hu
  rw [flat, List.mem_append] at hu
  rcases hu with hu | hu
  ·exact zt7 c u hu
  ·exact ih u hu
theorem zi15 {w : World} {base e size n g cap : Nat} {xs : List Value} (h : w.ownsRow base e size (σ (some ⟨g, 0, none⟩) n cap) n xs) (hn : 0 < n) : base ≤ g := by
 obtain ⟨g', cap', e', hb⟩ := zq18 h hn
 injection e' with e1 _ _
 injection e1 with e1
 injection e1 with e1
 omega
structure CpSt (w : World) (n : Nat) (ss : List St) (k : Nat) (U : Nat → Value) (cb : Nat → Nat) (wr : World) : Prop where
 bl : Bel w wr
 b0 : wr.cell? ⟨w.heap.size + 3, 0, none⟩ = some (σ (some ⟨w.heap.size + 2, 0, none⟩) k n)
 own : wr.ownsRow (w.heap.size + 2) 123 2 (σ (some ⟨w.heap.size + 2, 0, none⟩) k n) k (flatS U ss k)
 rs0 : wr.cell? ⟨w.heap.size + 1, 0, none⟩ = some (σ none 0 0)
 f1 : wr.frozen? ⟨w.heap.size + 1, 0, none⟩ = false
 f3 : wr.frozen? ⟨w.heap.size + 3, 0, none⟩ = false
 fzr : ∀ j, j < k → (ss.getD j s0).2 ≠ [] → ∀ o, wr.frozen? ⟨cb j, o, none⟩ = false
 us : ∀ j, j < k → ∃ sa cap, U j = σ sa (ss.getD j s0).2.length cap ∧ ((ss.getD j s0).2 = [] ∨ sa = some ⟨cb j, 0, none⟩)
 row : ∀ j, j < k → (ss.getD j s0).2 ≠ [] → CRow wr (cb j) 0 (ss.getD j s0).2
 lt : ∀ j, j < k → (ss.getD j s0).2 ≠ [] → w.heap.size + 3 < cb j ∧ cb j < wr.heap.size
 inc : ∀ i j, i < j → j < k → (ss.getD i s0).2 ≠ [] → (ss.getD j s0).2 ≠ [] → cb i < cb j
theorem CpSt.step {w : World} {n : Nat} {ss : List St} {k : Nat} {U : Nat → Value} {cb : Nat → Nat} {wr : World} (h : CpSt w n ss k U cb wr) {W5 w7 : World} (b5 : Bel wr W5) {tmp : Obj} (V : Value) (c : Nat)
  (hV : ∃ sa cap, V = σ sa (ss.getD k s0).2.length cap ∧ ((ss.getD k s0).2 = [] ∨ sa = some ⟨c, 0, none⟩))
  (hr : (ss.getD k s0).2 ≠ [] → CRow W5 c 0 (ss.getD k s0).2 ∧ wr.heap.size ≤ c ∧ ∀ o, W5.frozen? ⟨c, o, none⟩ = false)
  (hown : w7.ownsRow (w.heap.size + 2) 123 2 (σ (some ⟨w.heap.size + 2, 0, none⟩) (k + 1) n) (k + 1) (flatS U ss k ++ [O ι (ss.getD k s0).1, V])) (hgrow : (W5.alloc tmp).grownBy w7 (some (w.heap.size + 2))) :
  CpSt w n ss (k + 1) (fun j => if j = k then V else U j) (fun j => if j = k then c else cb j) (w7.setCell ⟨w.heap.size + 3, 0, none⟩ (σ (some ⟨w.heap.size + 2, 0, none⟩) (k + 1) n)) := by
 have hs3 := zj h.b0
 have hs5 := Below.size b5
 have hs7 := hgrow.size
 rw [World.size_alloc] at hs7
 have hb7 : ∀ b, b < W5.heap.size → b ≠ w.heap.size + 2 → w7.heap[b]? = W5.heap[b]? := fun b hb hn => by
  rw [hgrow.block b (by rw [World.size_alloc]; omega) (fun e => by cases e; exact hn rfl)]
  exact ((Below.refl W5.heap.size W5).alloc (Nat.le_refl _) tmp).block b hb
 have hb8 : ∀ b, b < W5.heap.size → b ≠ w.heap.size + 2 → b ≠ w.heap.size + 3 → (w7.setCell ⟨w.heap.size + 3, 0, none⟩ (σ (some ⟨w.heap.size + 2, 0, none⟩) (k + 1) n)).heap[b]? = W5.heap[b]? := fun b hb hn hn2 => (Below.heap_setCell _ _ _ _ hn2).trans (hb7 b hb hn)
 have hb9 : ∀ b, b < wr.heap.size → b ≠ w.heap.size + 2 → b ≠ w.heap.size + 3 → (w7.setCell ⟨w.heap.size + 3, 0, none⟩ (σ (some ⟨w.heap.size + 2, 0, none⟩) (k + 1) n)).heap[b]? = wr.heap[b]? := fun b hb hn hn2 => (hb8 b (by omega) hn hn2).trans (Below.block b5 b hb)
 have hc3 : w7.cell? ⟨w.heap.size + 3, 0, none⟩ = some (σ (some ⟨w.heap.size + 2, 0, none⟩) k n) := (World.cell?_of_block (w := wr) (a := ⟨w.heap.size + 3, 0, none⟩) ((hb7 (w.heap.size + 3) (by omega) (by omega)).trans (Below.block b5 (w.heap.size + 3) (by omega)))).trans h.b0
 have hcell : ∀ {b o v}, w.heap.size + 3 < b → W5.cell? ⟨b, o, none⟩ = some v → (w7.setCell ⟨w.heap.size + 3, 0, none⟩ (σ (some ⟨w.heap.size + 2, 0, none⟩) (k + 1) n)).cell? ⟨b, o, none⟩ = some v := fun {b o v} hb hc => (World.cell?_of_block (w := W5) (a := ⟨b, o, none⟩) (hb8 b (zj hc) (by omega) (by omega))).trans hc
 refine ⟨⟨?_, ?_, ?_, ?_, fun b hb => ?_⟩, ?_, ?_, ?_, ?_, ?_, fun j hj hne o => ?_, fun j hj => ?_, fun j hj hne => ?_, fun j hj hne => ?_, fun i j hij hj hi hjn => ?_⟩
 ·exact hgrow.os.trans (b5.os.trans h.bl.os)
 ·exact hgrow.tape.trans (b5.tape.trans h.bl.tape)
 ·exact hgrow.output.trans (b5.output.trans h.bl.output)
 ·have := Below.size h.bl; simp [World.setCell]; omega
 ·exact (hb9 b (by have := Below.size h.bl; omega) (by omega) (by omega)).trans (Below.block h.bl b hb)
 ·exact World.cell?_setCell_same _ _ _ hc3
 ·rw [flatS, if_pos rfl, zp7 (V := U) (fun j hj => if_neg (by omega))]
  exact hown.kept (grownBy_setCell' w7 (w.heap.size + 3) _) (.inr (fun e => by simp [Value.ownBlock] at e))
 ·exact (World.cell?_of_block (w := wr) (a := ⟨w.heap.size + 1, 0, none⟩) (hb9 (w.heap.size + 1) (by omega) (by omega) (by omega))).trans h.rs0
 ·exact (World.frozen?_of_block (w := wr) (a := ⟨w.heap.size + 1, 0, none⟩) (hb9 (w.heap.size + 1) (by omega) (by omega) (by omega))).trans h.f1
 ·rw [World.frozen?_setCell]
  exact (World.frozen?_of_block (w := wr) (a := ⟨w.heap.size + 3, 0, none⟩) ((hb7 (w.heap.size + 3) (by omega) (by omega)).trans (Below.block b5 (w.heap.size + 3) (by omega)))).trans h.f3
 ·by_cases e : j = k
  ·subst e
   rw [if_pos rfl]
   obtain ⟨r1, r2, r3⟩ := hr hne
   have hlt := zj (r1 0 (List.length_pos_iff.2 hne)).1
   exact (World.frozen?_of_block (w := W5) (a := ⟨c, o, none⟩) (hb8 c hlt (by omega) (by omega))).trans (r3 o)
  ·rw [if_neg e]
   have hl := h.lt j (by omega) hne
   exact (World.frozen?_of_block (w := wr) (a := ⟨cb j, o, none⟩) (hb9 (cb j) hl.2 (by omega) (by omega))).trans (h.fzr j (by omega) hne o)
 ·by_cases e : j = k
  ·subst e; rw [if_pos rfl, if_pos rfl]; exact hV
  ·rw [if_neg e, if_neg e]; exact h.us j (by omega)
 ·by_cases e : j = k
  ·subst e
   rw [if_pos rfl]
   obtain ⟨r1, r2, r3⟩ := hr hne
   exact fun i hi => ⟨hcell (by omega) (r1 i hi).1, hcell (by omega) (r1 i hi).2.1, hcell (by omega) (r1 i hi).2.2⟩
  ·rw [if_neg e]
   have hl := h.lt j (by omega) hne
   have hrw := (h.row j (by omega) hne).keep b5
   exact fun i hi => ⟨hcell (by omega) (hrw i hi).1, hcell (by omega) (hrw i hi).2.1, hcell (by omega) (hrw i hi).2.2⟩
 ·by_cases e : j = k
  ·subst e
   rw [if_pos rfl]
   obtain ⟨r1, r2, r3⟩ := hr hne
   have hlt := zj (r1 0 (List.length_pos_iff.2 hne)).1
   exact ⟨by omega, by simp [World.setCell]; omega⟩
  ·rw [if_neg e]
   have hl := h.lt j (by omega) hne
   exact ⟨by omega, by simp [World.setCell]; omega⟩
 ·by_cases e : j = k
  ·subst e
   rw [if_pos rfl, if_neg (by omega)]
   obtain ⟨r1, r2, r3⟩ := hr hjn
   have hl := h.lt i (by omega) hi
   omega
  ·rw [if_neg e, if_neg (by omega)]
   exact h.inc i j hij (by omega) hi hjn
theorem CpSt.done {w : World} {n : Nat} {ss : List St} {U : Nat → Value} {cb : Nat → Nat} {wr : World} (h : CpSt w n ss ss.length U cb wr) (v : Value) : HOwn (wr.setCell ⟨w.heap.size + 1, 0, none⟩ v) w.heap.size (w.heap.size + 2) cb ss := by
 have hs3 := zj h.b0
 have hblk : ∀ b, b ≠ w.heap.size + 1 → (wr.setCell ⟨w.heap.size + 1, 0, none⟩ v).heap[b]? = wr.heap[b]? := fun b hb => Below.heap_setCell _ _ _ _ hb
 have hcell : ∀ {b o x}, b ≠ w.heap.size + 1 → wr.cell? ⟨b, o, none⟩ = some x → (wr.setCell ⟨w.heap.size + 1, 0, none⟩ v).cell? ⟨b, o, none⟩ = some x := fun {b o x} hb hc => (World.cell?_of_block (w := wr) (a := ⟨b, o, none⟩) (hblk b hb)).trans hc
 refine ⟨fun j hj => ?_, fun j hj => ?_, fun j hj hne => ?_, fun o => ?_, fun j hj hne o => ?_, by omega, by simp [World.setCell]; omega, fun j hj hne => ?_, h.inc⟩
 ·exact hcell (by omega) ((h.own.cellAt _ (by omega)).trans (zz4 U ss ss.length j hj).1)
 ·obtain ⟨sa, cap, h1, h2⟩ := h.us j hj
  exact ⟨sa, cap, hcell (by omega) (((h.own.cellAt _ (by omega)).trans (zz4 U ss ss.length j hj).2).trans (by rw [h1])), h2⟩
 ·have hl := h.lt j hj hne
  have hrw := h.row j hj hne
  exact fun i hi => ⟨hcell (by omega) (hrw i hi).1, hcell (by omega) (hrw i hi).2.1, hcell (by omega) (hrw i hi).2.2⟩
 ·rw [World.frozen?_setCell]; exact h.own.frozenAt o
 ·rw [World.frozen?_setCell]; exact h.fzr j hj hne o
 ·have := h.lt j hj hne; omega
theorem zg12 {w : World} {v : Value} {ss : List St} (h : SV w v ss) (hl : SL ss 1048576) :
  Calls Tryz.prog 124 #[γ #[v]] w fun e w' => ∃ g cb, e = .returned (γ #[σ (some ⟨g, 0, none⟩) ss.length ss.length]) ∧ HOwn w' w.heap.size g cb ss ∧ Bel w w' := by
 obtain ⟨i0, hi0, hz0, hz1, hz2⟩ := info_parts zw13
 obtain ⟨i6, hi6, hx0, hx1, hx2⟩ := info_parts zx4
 obtain ⟨sa, cap, rfl, hx⟩ := h
 have hl1 := hl.1
 have x1 : Ext w ((w.alloc (χ #[σ sa ss.length cap] 34)).alloc (χ #[σ none 0 0] 34)) := ((Ext.refl w).alloc _ _).alloc _ _
 have hmk := run_make (P := Tryz.prog) ((w.alloc (χ #[σ sa ss.length cap] 34)).alloc (χ #[σ none 0 0] 34)) 32 123 i0 (γ #[O ι 0, σ none 0 0]) Tryz.underlying32 hi0 hz0 .i64 .i64 0 ss.length (by omega) (by omega) (by rw [hz2]; omega) (by omega)
 simp only [Int.toNat_natCast] at hmk
 have hs2 : ((w.alloc (χ #[σ sa ss.length cap] 34)).alloc (χ #[σ none 0 0] 34)).heap.size = w.heap.size + 1 + 1 := by simp
 have S0 : Hid (CpSt w ss.length ss 0 (fun _ => σ none 0 0) (fun _ => 0) ((((w.alloc (χ #[σ sa ss.length cap] 34)).alloc (χ #[σ none 0 0] 34)).alloc (χ (madeCells #[O ι 0, σ none 0 0] (ss.length * 2)) 123)).alloc (χ #[σ (some ⟨w.heap.size + 1 + 1, 0, none⟩) 0 ss.length] 34))) := by
  have x3 : Ext ((w.alloc (χ #[σ sa ss.length cap] 34)).alloc (χ #[σ none 0 0] 34)) ((((w.alloc (χ #[σ sa ss.length cap] 34)).alloc (χ #[σ none 0 0] 34)).alloc (χ (madeCells #[O ι 0, σ none 0 0] (ss.length * 2)) 123)).alloc (χ #[σ (some ⟨w.heap.size + 1 + 1, 0, none⟩) 0 ss.length] 34)) := ((Ext.refl _).alloc _ _).alloc _ _
  refine ⟨(x1.trans x3).bl, ?_, ?_, ?_, (x1.trans x3).unfrozen (by omega) 0, (x1.trans x3).unfrozen (by omega) 0, fun j hj => by omega, fun j hj => by omega, fun j hj => by omega, fun j hj => by omega, fun i j h1 h2 => by omega⟩
  ·exact zd _ #[σ (some ⟨w.heap.size + 1 + 1, 0, none⟩) 0 ss.length] 34 (w.heap.size + 3) (by simp) 0
  ·refine World.ownsRow.alloc ?_ _
   have h := World.ownsRow_made (base := w.heap.size + 2) (e := 123) (size := 2) ((w.alloc (χ #[σ sa ss.length cap] 34)).alloc (χ #[σ none 0 0] 34)) (madeCells #[O ι 0, σ none 0 0] (ss.length * 2)) ss.length (by rw [hs2]; omega) (by unfold maxLen; omega) (by simp [madeCells])
   rw [hs2] at h
   exact h
  ·exact x3.box (zd (w.alloc (χ #[σ sa ss.length cap] 34)) #[σ none 0 0] 34 (w.heap.size + 1) (by simp) 0)
 have HX := hide hx
 have HL := hide hl
 clear hx hl x1 hs2
 go_enter Tryz.func124, Tryz.ntmps124
 go_wp2_with fail
 clear hmk
 generalize ((((w.alloc (χ #[σ sa ss.length cap] 34)).alloc (χ #[σ none 0 0] 34)).alloc (χ (madeCells #[O ι 0, σ none 0 0] (ss.length * 2)) 123)).alloc (χ #[σ (some ⟨w.heap.size + 1 + 1, 0, none⟩) 0 ss.length] 34)) = W2 at S0 ⊢
 go_loopw [14] (fun i wr => ∃ (k : Nat) (U : Nat → Value) (cb : Nat → Nat), i = O ι k ∧ k ≤ ss.length ∧ CpSt w ss.length ss k U cb wr) (fun i _ => ss.length - (intOf i).toNat)
 case atStart => exact ⟨0, _, _, rfl, by omega, S0.out⟩
 case round =>
  obtain ⟨k, U, cb, rfl, hk, hC⟩ := hrel
  have HC := hide hC
  clear S0
  by_cases hlt : k < ss.length
  ·rcases HX.out with h0 | ⟨b, off, rfl, hrow⟩
   ·rw [h0] at hlt; simp at hlt
   obtain ⟨q0, u, q1, q2⟩ := (hrow.keep hC.bl) k hlt
   have hcl := HL.out.at k hlt
   have hk0 : (0 : Int) ≤ (k : Int) := Int.natCast_nonneg _
   have hk1 : (k : Int) < (ss.length : Int) := by omega
   have Q2 := hide q2
   have c3 := hC.b0
   generalize hD : (ss.getD k s0).1 = D at q0
   generalize hcs : (ss.getD k s0).2 = cs at q2 hcl Q2
   have HD := hide hD
   have Hcs := hide hcs
   clear hrow hD hcs q2
   obtain ⟨su, cu, rfl, hcv⟩ := Q2.out
   clear hC
   have xb : Ext wr (wr.alloc (χ #[O ι D, σ su cs.length cu] 123)) := (Ext.refl wr).alloc _ _
   have nb := fun j => zd wr #[O ι D, σ su cs.length cu] 123 wr.heap.size rfl j
   have HS : Hid (∀ W', Bel (wr.alloc (χ #[O ι D, σ su cs.length cu] 123)) W' → (fun w' => w'.cell? ⟨w.heap.size + 1 + 1 + 1, 0, none⟩ = some (σ (some ⟨w.heap.size + 1 + 1, 0, none⟩) k ss.length) ∧ w'.cell? ⟨wr.heap.size, 0, none⟩ = some (O ι D) ∧ w'.cell? ⟨wr.heap.size, 1, none⟩ = some (σ su cs.length cu)) W') := fun W' h => ⟨Bel.box h (xb.box c3), Bel.box h (nb 0), Bel.box h (nb 1)⟩
   have HB0 : Hid (Bel (wr.alloc (χ #[O ι D, σ su cs.length cu] 123)) ((wr.alloc (χ #[O ι D, σ su cs.length cu] 123))).drew) := (Below.refl _ _).drew
   have SA := hide (HS.out _ HB0.out)
   have XB := hide xb.bl
   have hsb : ((wr.alloc (χ #[O ι D, σ su cs.length cu] 123))).heap.size = wr.heap.size + 1 := by simp
   have Hsb := hide hsb
   clear xb nb hsb c3
   go_wp2_with fail
   generalize hBX : (wr.alloc (χ #[O ι D, σ su cs.length cu] 123)) = BX at *
   have HNW : Hid (∀ (W : World) (V : Value), ∀ j u, ([O ι D, V] : List Value)[j]? = some u → (W.alloc (χ #[O ι D, V] 123)).cell? ((⟨W.heap.size, 0, none⟩ : Addr).add j) = some u) := fun W V j u hj => by
    rw [Addr.add_lit, Nat.zero_add, zd W _ 123 _ rfl j]
    simpa using hj
   rcases Classical.em (cs = []) with h0 | h0
   ·subst h0
    refine zs2 (S := (fun w' : World => w'.cell? ⟨w.heap.size + 1 + 1 + 1, 0, none⟩ = some (σ (some ⟨w.heap.size + 1 + 1, 0, none⟩) k ss.length) ∧ w'.cell? ⟨wr.heap.size, 0, none⟩ = some (O ι D) ∧ w'.cell? ⟨wr.heap.size, 1, none⟩ = some (σ su 0 cu))) (late := [12]) (by kernel_rfl) ?_
    refine zi (i := 0) (v := π (some ⟨w.heap.size + 1 + 1 + 1, 0, none⟩)) rfl (by kernel_rfl) (by kernel_rfl) (fun _ _ _ h => by cases h.1) _ (by kernel_rfl) (by kernel_rfl) (Or.inl ⟨by rfl, ?_⟩) SA.out ?_
    ·rintro w' ⟨z0, z1, z2⟩
     go_simp
    simp only [aP, sT, sZ, sS]
    refine zi (i := 1) (v := σ (some ⟨w.heap.size + 1 + 1, 0, none⟩) k ss.length) rfl (by kernel_rfl) (by kernel_rfl) (fun _ _ _ h => by cases h.1) _ (by kernel_rfl) (by kernel_rfl) (Or.inl ⟨by rfl, ?_⟩) SA.out ?_
    ·rintro w' ⟨z0, z1, z2⟩
     go_simp
    simp only [aP, sT, sZ, sS]
    refine zi (i := 2) (v := π (some ⟨wr.heap.size, 0, none⟩)) rfl (by kernel_rfl) (by kernel_rfl) (fun _ _ _ h => by cases h.1) _ (by kernel_rfl) (by kernel_rfl) (Or.inl ⟨by rfl, ?_⟩) SA.out ?_
    ·rintro w' ⟨z0, z1, z2⟩
     go_simp
    simp only [aP, sT, sZ, sS]
    refine zi (i := 3) (v := O ι D) rfl (by kernel_rfl) (by kernel_rfl) (fun _ _ _ h => by cases h.1) _ (by kernel_rfl) (by kernel_rfl) (Or.inl ⟨by rfl, ?_⟩) SA.out ?_
    ·rintro w' ⟨z0, z1, z2⟩
     go_simp
    simp only [aP, sT, sZ, sS]
    refine zi (i := 5) (v := π (some ⟨wr.heap.size, 1, none⟩)) rfl (by kernel_rfl) (by kernel_rfl) (fun _ _ _ h => by cases h.1) _ (by kernel_rfl) (by kernel_rfl) (Or.inl ⟨by rfl, ?_⟩) SA.out ?_
    ·rintro w' ⟨z0, z1, z2⟩
     go_simp
    simp only [aP, sT, sZ, sS]
    refine zi (i := 6) (v := σ su 0 cu) rfl (by kernel_rfl) (by kernel_rfl) (fun _ _ _ h => by cases h.1) _ (by kernel_rfl) (by kernel_rfl) (Or.inl ⟨by rfl, ?_⟩) SA.out ?_
    ·rintro w' ⟨z0, z1, z2⟩
     go_simp
    simp only [aP, sT, sZ, sS]
    refine ze (i := 4) (by kernel_rfl) rfl (fun K hK => ?_)
    go_simp
    refine hK.out _ _ (fun _ => HS.out _ (Below.alloc HB0.out HB0.out.size _)) ?_
    clear hK K
    try simp only [aP, sT, sZ, sS]
    have HBL : Hid (Bel BX (BX.alloc (χ #[] 66)).drew) := Below.alloc HB0.out HB0.out.size (χ #[] 66)
    refine ze (i := 7) (by kernel_rfl) rfl (fun K hK => ?_)
    refine zv5 (by rfl) (.tmp 22) (.tmp 24) 61 (by rfl) 66 i6 Tryz.underlying61 hi6 ⟨BX.heap.size, 0, none⟩ 0 0 (by omega) (by rfl) su cu (by rfl) ?_
    refine hK.out _ _ (fun _ => HS.out _ HBL.out) ?_
    clear hK K
    try simp only [aP, sT, sZ, sS]
    generalize hW5 : (BX.alloc (χ #[] 66)).drew = W5 at HBL ⊢
    have hB5 : BX.heap.size + 1 = W5.heap.size := by rw [← hW5]; simp [World.drew]
    clear hW5
    refine zi (i := 8) (v := γ #[O ι D, σ (some ⟨BX.heap.size, 0, none⟩) 0 0]) rfl (by kernel_rfl) (by kernel_rfl) (fun _ _ _ h => by cases h.1) _ (by kernel_rfl) (by kernel_rfl) (Or.inl ⟨by rfl, ?_⟩) (HS.out _ HBL.out) ?_
    ·rintro w' ⟨z0, z1, z2⟩
     go_simp
    simp only [aP, sT, sZ, sS]
    refine ze (i := 9) (by kernel_rfl) rfl (fun K hK => ?_)
    go_simp
    refine hK.out _ _ (fun _ => HS.out _ (Below.alloc HBL.out HBL.out.size _)) ?_
    clear hK K
    try simp only [aP, sT, sZ, sS]
    refine ze (i := 10) (by kernel_rfl) rfl (fun K hK => ?_)
    refine zs1 (by rfl) (.tmp 19) (.tmp 27) 32 (by rfl) (w.heap.size + 2) 123 i0 2 Tryz.underlying32 hi0 hz1 (w.heap.size + 2) k ss.length (flatS U ss k) (by rfl) ((zk3 HC.out.own (Bel.tr XB.out HBL.out)).alloc _) ⟨W5.heap.size, 0, none⟩ 1 1 [O ι D, σ (some ⟨BX.heap.size, 0, none⟩) 0 0] (by rfl) (by rfl) (HNW.out _ _) (by simp [Value.oneCell']) (by omega) ?_
    intro w7 hown7 hgrow7
    have S7 : Hid ((fun w' : World => w'.cell? ⟨w.heap.size + 1 + 1 + 1, 0, none⟩ = some (σ (some ⟨w.heap.size + 1 + 1, 0, none⟩) k ss.length) ∧ w'.cell? ⟨wr.heap.size, 0, none⟩ = some (O ι D) ∧ w'.cell? ⟨wr.heap.size, 1, none⟩ = some (σ su 0 cu)) w7) := ⟨zb1 hgrow7 (by omega) (HS.out _ (Below.alloc HBL.out HBL.out.size _)).1, zb1 hgrow7 (by have := zj HC.out.b0; omega) (HS.out _ (Below.alloc HBL.out HBL.out.size _)).2.1, zb1 hgrow7 (by have := zj HC.out.b0; omega) (HS.out _ (Below.alloc HBL.out HBL.out.size _)).2.2⟩
    have c7 : w7.cell? ⟨w.heap.size + 1 + 1 + 1, 0, none⟩ = some (σ (some ⟨w.heap.size + 1 + 1, 0, none⟩) k ss.length) := S7.out.1
    have f7 : w7.frozen? ⟨w.heap.size + 1 + 1 + 1, 0, none⟩ = false := by
     have h3 := zj HC.out.b0
     have h5 := (Bel.tr XB.out HBL.out).size
     have e1 := hgrow7.block (w.heap.size + 3) (by rw [World.size_alloc]; omega) (by simp)
     have e2 := (Below.alloc (Bel.tr XB.out HBL.out) (Bel.tr XB.out HBL.out).size (χ #[O ι D, σ (some ⟨BX.heap.size, 0, none⟩) 0 0] 123)).block (w.heap.size + 3) h3
     exact (World.frozen?_of_block (w := wr) (a := ⟨w.heap.size + 3, 0, none⟩) (e1.trans e2)).trans HC.out.f3
    refine hK.out _ _ (fun _ => S7.out) ?_
    clear hK K
    try simp only [aP, sT, sZ, sS]
    have HST := hide (HC.out.step (Bel.tr XB.out HBL.out) (σ (some ⟨BX.heap.size, 0, none⟩) 0 0) 0 (⟨_, _, by rw [Hcs.out]; rfl, Or.inl Hcs.out⟩) (fun hne => absurd Hcs.out hne) (by rw [HD.out]; exact hown7) hgrow7)
    clear hown7 hgrow7
    refine zi (i := 11) (v := π (some ⟨w.heap.size + 1 + 1 + 1, 0, none⟩)) rfl (by kernel_rfl) (by kernel_rfl) (fun _ _ _ h => by cases h.1) _ (by kernel_rfl) (by kernel_rfl) (Or.inl ⟨by rfl, ?_⟩) S7.out ?_
    ·rintro w' ⟨z0, z1, z2⟩
     go_simp
    simp only [aP, sT, sZ, sS]
    refine ze (i := 12) (by kernel_rfl) rfl (fun K hK => ?_)
    go_simp
    refine hK.out _ _ (fun h => absurd h (by decide)) ?_
    clear hK K
    try simp only [aP, sT, sZ, sS]
    refine zg (by kernel_rfl) ?_ _
    refine ⟨rfl, ?_⟩
    go_wp2_with fail
    go_roundw
    ·exact ⟨k + 1, _, _, by go_num, by omega, HST.out⟩
    ·simp [intOf]; omega
   ·have hpos : 0 < cs.length := List.length_pos_iff.2 h0
    obtain ⟨bc, oc, rfl, hcr⟩ := hcv.resolve_left h0
    have HNC : Hid (∀ W : World, Bel wr W → ∀ j u, (flat cs)[j]? = some u → W.cell? ((⟨bc, oc, none⟩ : Addr).add j) = some u) := fun W hW j u hj => by
     rw [Addr.add_lit]
     exact zf12 (hcr.keep hW) j u hj
    refine zs2 (S := (fun w' : World => w'.cell? ⟨w.heap.size + 1 + 1 + 1, 0, none⟩ = some (σ (some ⟨w.heap.size + 1 + 1, 0, none⟩) k ss.length) ∧ w'.cell? ⟨wr.heap.size, 0, none⟩ = some (O ι D) ∧ w'.cell? ⟨wr.heap.size, 1, none⟩ = some (σ (some ⟨bc, oc, none⟩) cs.length cu))) (late := [12]) (by kernel_rfl) ?_
    refine zi (i := 0) (v := π (some ⟨w.heap.size + 1 + 1 + 1, 0, none⟩)) rfl (by kernel_rfl) (by kernel_rfl) (fun _ _ _ h => by cases h.1) _ (by kernel_rfl) (by kernel_rfl) (Or.inl ⟨by rfl, ?_⟩) SA.out ?_
    ·rintro w' ⟨z0, z1, z2⟩
     go_simp
    simp only [aP, sT, sZ, sS]
    refine zi (i := 1) (v := σ (some ⟨w.heap.size + 1 + 1, 0, none⟩) k ss.length) rfl (by kernel_rfl) (by kernel_rfl) (fun _ _ _ h => by cases h.1) _ (by kernel_rfl) (by kernel_rfl) (Or.inl ⟨by rfl, ?_⟩) SA.out ?_
    ·rintro w' ⟨z0, z1, z2⟩
     go_simp
    simp only [aP, sT, sZ, sS]
    refine zi (i := 2) (v := π (some ⟨wr.heap.size, 0, none⟩)) rfl (by kernel_rfl) (by kernel_rfl) (fun _ _ _ h => by cases h.1) _ (by kernel_rfl) (by kernel_rfl) (Or.inl ⟨by rfl, ?_⟩) SA.out ?_
    ·rintro w' ⟨z0, z1, z2⟩
     go_simp
    simp only [aP, sT, sZ, sS]
    refine zi (i := 3) (v := O ι D) rfl (by kernel_rfl) (by kernel_rfl) (fun _ _ _ h => by cases h.1) _ (by kernel_rfl) (by kernel_rfl) (Or.inl ⟨by rfl, ?_⟩) SA.out ?_
    ·rintro w' ⟨z0, z1, z2⟩
     go_simp
    simp only [aP, sT, sZ, sS]
    refine zi (i := 5) (v := π (some ⟨wr.heap.size, 1, none⟩)) rfl (by kernel_rfl) (by kernel_rfl) (fun _ _ _ h => by cases h.1) _ (by kernel_rfl) (by kernel_rfl) (Or.inl ⟨by rfl, ?_⟩) SA.out ?_
    ·rintro w' ⟨z0, z1, z2⟩
     go_simp
    simp only [aP, sT, sZ, sS]
    refine zi (i := 6) (v := σ (some ⟨bc, oc, none⟩) cs.length cu) rfl (by kernel_rfl) (by kernel_rfl) (fun _ _ _ h => by cases h.1) _ (by kernel_rfl) (by kernel_rfl) (Or.inl ⟨by rfl, ?_⟩) SA.out ?_
    ·rintro w' ⟨z0, z1, z2⟩
     go_simp
    simp only [aP, sT, sZ, sS]
    refine ze (i := 4) (by kernel_rfl) rfl (fun K hK => ?_)
    go_simp
    refine hK.out _ _ (fun _ => HS.out _ (Below.alloc HB0.out HB0.out.size _)) ?_
    clear hK K
    try simp only [aP, sT, sZ, sS]
    have HBL : Hid (Bel BX (BX.alloc (χ #[] 66)).drew) := Below.alloc HB0.out HB0.out.size (χ #[] 66)
    refine ze (i := 7) (by kernel_rfl) rfl (fun K hK => ?_)
    refine step_append_lies _ (by rfl) (.tmp 22) (.tmp 24) 61 (by rfl) BX.heap.size 66 i6 (γ #[O ι 0, .float .f64 0, .float .f64 0]) 3 24 Tryz.underlying61 hi6 hx0 hx1 hx2 rfl (by decide) (σ (some ⟨BX.heap.size, 0, none⟩) 0 0) 0 [] (by rfl) (World.ownsRow_lit (base := BX.heap.size) (e := 66) (size := 3) BX.drew #[] 0 (Nat.le_refl _) (by unfold maxLen; omega) (by simp)) ⟨bc, oc, none⟩ cs.length cu (flat cs) (by rfl) (za5 cs) (HNC.out _ (Bel.tr XB.out HBL.out)) (flat_one' cs) hpos (by unfold maxLen; omega) (by omega) (by simp) (BX.heap.size + 1) (by simp) ?_
    intro g5 cap5 W5 hown5 hgrow5 hat5 hlt5
    have HBL5 : Hid (Bel BX W5) := Below.grown HBL.out hgrow5 (by have := HBL.out.size; omega) (fun j hj => by simp [Value.ownBlock] at hj; omega)
    rw [Nat.zero_add, List.nil_append] at hown5
    have HO5 := hide hown5
    clear hown5 hgrow5 hat5 hlt5 HBL
    refine hK.out _ _ (fun _ => HS.out _ HBL5.out) ?_
    clear hK K
    try simp only [aP, sT, sZ, sS]
    have HBL := HBL5
    clear HBL5
    refine zi (i := 8) (v := γ #[O ι D, σ (some ⟨g5, 0, none⟩) cs.length cap5]) rfl (by kernel_rfl) (by kernel_rfl) (fun _ _ _ h => by cases h.1) _ (by kernel_rfl) (by kernel_rfl) (Or.inl ⟨by rfl, ?_⟩) (HS.out _ HBL.out) ?_
    ·rintro w' ⟨z0, z1, z2⟩
     go_simp
    simp only [aP, sT, sZ, sS]
    refine ze (i := 9) (by kernel_rfl) rfl (fun K hK => ?_)
    go_simp
    refine hK.out _ _ (fun _ => HS.out _ (Below.alloc HBL.out HBL.out.size _)) ?_
    clear hK K
    try simp only [aP, sT, sZ, sS]
    refine ze (i := 10) (by kernel_rfl) rfl (fun K hK => ?_)
    refine zs1 (by rfl) (.tmp 19) (.tmp 27) 32 (by rfl) (w.heap.size + 2) 123 i0 2 Tryz.underlying32 hi0 hz1 (w.heap.size + 2) k ss.length (flatS U ss k) (by rfl) ((zk3 HC.out.own (Bel.tr XB.out HBL.out)).alloc _) ⟨W5.heap.size, 0, none⟩ 1 1 [O ι D, σ (some ⟨g5, 0, none⟩) cs.length cap5] (by rfl) (by rfl) (HNW.out _ _) (by simp [Value.oneCell']) (by omega) ?_
    intro w7 hown7 hgrow7
    have S7 : Hid ((fun w' : World => w'.cell? ⟨w.heap.size + 1 + 1 + 1, 0, none⟩ = some (σ (some ⟨w.heap.size + 1 + 1, 0, none⟩) k ss.length) ∧ w'.cell? ⟨wr.heap.size, 0, none⟩ = some (O ι D) ∧ w'.cell? ⟨wr.heap.size, 1, none⟩ = some (σ (some ⟨bc, oc, none⟩) cs.length cu)) w7) := ⟨zb1 hgrow7 (by omega) (HS.out _ (Below.alloc HBL.out HBL.out.size _)).1, zb1 hgrow7 (by have := zj HC.out.b0; omega) (HS.out _ (Below.alloc HBL.out HBL.out.size _)).2.1, zb1 hgrow7 (by have := zj HC.out.b0; omega) (HS.out _ (Below.alloc HBL.out HBL.out.size _)).2.2⟩
    have c7 : w7.cell? ⟨w.heap.size + 1 + 1 + 1, 0, none⟩ = some (σ (some ⟨w.heap.size + 1 + 1, 0, none⟩) k ss.length) := S7.out.1
    have f7 : w7.frozen? ⟨w.heap.size + 1 + 1 + 1, 0, none⟩ = false := by
     have h3 := zj HC.out.b0
     have h5 := (Bel.tr XB.out HBL.out).size
     have e1 := hgrow7.block (w.heap.size + 3) (by rw [World.size_alloc]; omega) (by simp)
     have e2 := (Below.alloc (Bel.tr XB.out HBL.out) (Bel.tr XB.out HBL.out).size (χ #[O ι D, σ (some ⟨g5, 0, none⟩) cs.length cap5] 123)).block (w.heap.size + 3) h3
     exact (World.frozen?_of_block (w := wr) (a := ⟨w.heap.size + 3, 0, none⟩) (e1.trans e2)).trans HC.out.f3
    refine hK.out _ _ (fun _ => S7.out) ?_
    clear hK K
    try simp only [aP, sT, sZ, sS]
    have HST := hide (HC.out.step (Bel.tr XB.out HBL.out) (σ (some ⟨g5, 0, none⟩) cs.length cap5) g5 (⟨_, _, by rw [Hcs.out], Or.inr rfl⟩) (fun _ => by rw [Hcs.out]; exact ⟨ze4 HO5.out rfl, Nat.le_trans (by rw [Hsb.out]; omega) (zi15 HO5.out hpos), fun o => HO5.out.frozenAt o⟩) (by rw [HD.out]; exact hown7) hgrow7)
    clear hown7 hgrow7
    refine zi (i := 11) (v := π (some ⟨w.heap.size + 1 + 1 + 1, 0, none⟩)) rfl (by kernel_rfl) (by kernel_rfl) (fun _ _ _ h => by cases h.1) _ (by kernel_rfl) (by kernel_rfl) (Or.inl ⟨by rfl, ?_⟩) S7.out ?_
    ·rintro w' ⟨z0, z1, z2⟩
     go_simp
    simp only [aP, sT, sZ, sS]
    refine ze (i := 12) (by kernel_rfl) rfl (fun K hK => ?_)
    go_simp
    refine hK.out _ _ (fun h => absurd h (by decide)) ?_
    clear hK K
    try simp only [aP, sT, sZ, sS]
    refine zg (by kernel_rfl) ?_ _
    refine ⟨rfl, ?_⟩
    go_wp2_with fail
    go_roundw
    ·exact ⟨k + 1, _, _, by go_num, by omega, HST.out⟩
    ·simp [intOf]; omega
  ·have hkk : k = ss.length := by omega
   subst hkk
   have c1 := HC.out.rs0
   have f1 := HC.out.f1
   have c3 := HC.out.b0
   clear hC
   go_wp2
   refine bodyPost_ret (v := γ #[σ (some ⟨w.heap.size + 2, 0, none⟩) ss.length ss.length]) (by simp [results, Tryz.results124, go_sem, c1]) rfl ⟨_, cb, rfl, HC.out.done _, HC.out.bl.setCell (p := ⟨w.heap.size + 1, 0, none⟩) (by show _ ≤ w.heap.size + 1; omega) _⟩
end
section
open Go.ChangeShapes Go.RowKit FL
structure S1 (w : World) (zx27 base : Nat) (rv : Value) (k : Nat) (xs : List Value) (K : Nat) (F : List Nat) (w' : World) (b g cap : Nat) : Prop where
 box : w'.cell? ⟨zx27, 0, none⟩ = some (σ (some ⟨g, 0, none⟩) (k + 1) cap)
 bfz : ∀ o, w'.frozen? ⟨zx27, o, none⟩ = w.frozen? ⟨zx27, o, none⟩
 own : w'.ownsRow base 67 1 (σ (some ⟨g, 0, none⟩) (k + 1) cap) (k + 1) (xs ++ [σ (some ⟨b, 0, none⟩) K K])
 row : FRow w' b F
 blo : w.heap.size ≤ b
 bhi : b < w'.heap.size
 gb : rv.ownBlock = some g ∨ b < g
 size : w.heap.size ≤ w'.heap.size
 keep : ∀ c, c < w.heap.size → c ≠ zx27 → rv.ownBlock ≠ some c → w'.heap[c]? = w.heap[c]?
 bl : ∀ lo, lo ≤ zx27 → lo ≤ base → Below lo w w'
 r1 : ∀ o x, o ≠ 0 → w.cell? ⟨zx27, o, none⟩ = some x → w'.cell? ⟨zx27, o, none⟩ = some x
end
section
open Go.RowKit Go.ChangeShapes
theorem zz2 : (Tryz.prog.info? 2).map (·.size) = some 1 := by kernel_rfl

end
section
open Go.ChangeShapes Go.RowKit Go.Shelf
attribute [local go_sem] Oper.semAt_some
theorem zt8 (W : World) (P : Int) (h0 : 0 ≤ P) (h1 : P ≤ 4096) : (Instr.makeSlice 61 (O ι 0) (O ι P)).run Tryz.prog W = .ok (σ (some ⟨W.heap.size, 0, none⟩) 0 P.toNat) (W.alloc (χ (madeCells #[O ι 0, .float .f64 0, .float .f64 0] (P.toNat * 3)) 66)) := by
 obtain ⟨i0, hi0, hz0, hz1, hz2⟩ := info_parts zx4
 have h := run_make (P := Tryz.prog) W 61 66 i0 (γ #[O ι 0, .float .f64 0, .float .f64 0]) Tryz.underlying61 hi0 hz0 .i64 .i64 0 P (by omega) (by omega) (by rw [hz2]; omega) (by omega)
 rw [hz1] at h
 exact h
structure RSt (W2 W0 : World) (b P : Nat) : Prop where
 size : W0.heap.size = b + 3
 box : Boxed W0 (b + 1) 61 (σ (some ⟨b, 0, none⟩) 0 P)
 row : W0.ownsRow b 66 3 (σ (some ⟨b, 0, none⟩) 0 P) 0 []
 bl : Below b W2 W0
theorem RSt.start {w2 : World} {b P : Nat} (hs : w2.heap.size = b) (hP : P ≤ 4096) (V : Array Value) :
  RSt w2 (((w2.alloc (χ (madeCells #[O ι 0, .float .f64 0, .float .f64 0] (P * 3)) 66)).alloc (χ #[σ (some ⟨b, 0, none⟩) 0 P] 61)).alloc (.cells V 83)) b P := by
 have hb : Below b w2 w2 := Below.refl _ _
 refine ⟨by simp; omega, ?_, ?_, ((hb.alloc (by omega) _).alloc (by simp; omega) _).alloc (by simp; omega) _⟩
 ·have h := (Boxed.new (w2.alloc (χ (madeCells #[O ι 0, .float .f64 0, .float .f64 0] (P * 3)) 66)) 61 (σ (some ⟨b, 0, none⟩) 0 P)).alloc (.cells V 83)
  rw [World.size_alloc, hs] at h
  exact h
 ·refine World.ownsRow.alloc (World.ownsRow.alloc ?_ _) _
  have h := World.ownsRow_made (base := b) (e := 66) (size := 3) w2 (madeCells #[O ι 0, .float .f64 0, .float .f64 0] (P * 3)) P (by omega) (by unfold maxLen; omega) (by simp [madeCells])
  rw [hs] at h
  exact h
def CellsCap (w : World) (cs : List C3) (e : Ending) (w' : World) : Prop := ∃ (sa : Option Addr) (cap : Nat), e = .returned (σ sa cs.length cap) ∧ OwnC w' w.heap.size sa cs ∧ Below w.heap.size w w' ∧ cs.length ≤ cap
theorem zd21 (n : Nat) (hn : 3 ≤ n) (xs ss : List Int) (off st dt : Int) {w : World} {su : Option Addr} {cu : Nat} {cs : List C3} (hcv : CV w (σ su cs.length cu) cs) (hlc : cs.length ≤ 1048576) (hv : ValidV xs ss off) (hin : ∀ p ∈ offsL xs ss off, p < (cs.length : Int)) :
  CallsIn Fence.wide n Tryz.prog 40 #[γ #[O ι xs.length, O ι (xs.getD 0 0), O ι (xs.getD 1 0), O ι (xs.getD 2 0), O ι (xs.getD 3 0), O ι (ss.getD 0 0), O ι (ss.getD 1 0), O ι (ss.getD 2 0), O ι (ss.getD 3 0), O ι off, O ι st, O ι dt, σ su cs.length cu]] w fun e w' => CellsCap w ((offsL xs ss off).map fun p => cs.getD p.toNat k0) e w' := by
 have hdd : ∀ k : Nat, (Fence.wide.depth.isSome = true → 1 ≤ k) := fun k h => by cases h
 have hl4 := hv.1.1
 have hpb : 0 ≤ prod xs ∧ prod xs ≤ 4096 := ⟨by have := zw (fun m hm => (zy hv.1 m hm).1); omega, hv.1.2.2⟩
 have hcnt := hide (fun W => zp2 W xs hv.1.1 hv.1.2.1)
 have hpl := hide (fun n W => zi5 n xs ss off W)
 have hst := hide (fun n Bf W hB => zh15 (cs.length : Int) n Bf xs ss off hv.1.1 hv.2.1 hv.1.2.1 hv.1.2.2 hv.2.2.2.1 hv.2.2.1 (fun x hx => ⟨(zq3 hv x hx).1, hin x hx⟩) W hB)
 have hOP := zl21 hv
 clear hv hin
 have hmk := fun W => zt8 W (prod xs) hpb.1 hpb.2
 unfold vw at hpl hst
 unfold shp at hcnt
 generalize hOL : offsL xs ss off = OL at hst hOP
 have HOL := hide hOL
 clear hOL
 generalize xs.getD 0 0 = a0 at *
 generalize xs.getD 1 0 = a1 at *
 generalize xs.getD 2 0 = a2 at *
 generalize xs.getD 3 0 = a3 at *
 generalize ss.getD 0 0 = s0 at *
 generalize ss.getD 1 0 = s1 at *
 generalize ss.getD 2 0 = s2 at *
 generalize ss.getD 3 0 = s3 at *
 generalize hP : prod xs = P at *
 have HP := hide hP
 clear hP
 have hs2 : ((w.alloc (χ #[O ι xs.length, O ι a0, O ι a1, O ι a2, O ι a3, O ι s0, O ι s1, O ι s2, O ι s3, O ι off, O ι st, O ι dt, σ su cs.length cu] 85)).alloc (χ #[O ι xs.length, O ι a0, O ι a1, O ι a2, O ι a3] 81)).heap.size = w.heap.size + 1 + 1 := by simp
 have x2 : Ext w ((w.alloc (χ #[O ι xs.length, O ι a0, O ι a1, O ι a2, O ι a3, O ι s0, O ι s1, O ι s2, O ι s3, O ι off, O ι st, O ι dt, σ su cs.length cu] 85)).alloc (χ #[O ι xs.length, O ι a0, O ι a1, O ι a2, O ι a3] 81)) := ((Ext.refl w).alloc _ _).alloc _ _
 have c12 : ((w.alloc (χ #[O ι xs.length, O ι a0, O ι a1, O ι a2, O ι a3, O ι s0, O ι s1, O ι s2, O ι s3, O ι off, O ι st, O ι dt, σ su cs.length cu] 85)).alloc (χ #[O ι xs.length, O ι a0, O ι a1, O ι a2, O ι a3] 81)).cell? ⟨w.heap.size, 12, none⟩ = some (σ su cs.length cu) := ((Ext.refl (w.alloc (χ #[O ι xs.length, O ι a0, O ι a1, O ι a2, O ι a3, O ι s0, O ι s1, O ι s2, O ι s3, O ι off, O ι st, O ι dt, σ su cs.length cu] 85))).alloc _ _).box (zd w #[O ι xs.length, O ι a0, O ι a1, O ι a2, O ι a3, O ι s0, O ι s1, O ι s2, O ι s3, O ι off, O ι st, O ι dt, σ su cs.length cu] 85 w.heap.size rfl 12)
 have O0 := hide (RSt.start hs2 (show P.toNat ≤ 4096 by omega) #[O ι xs.length, O ι a0, O ι a1, O ι a2, O ι a3, O ι s0, O ι s1, O ι s2, O ι s3, O ι off])
 have hst2 := hide (hst.out (n - 1) (w.heap.size + 1 + 1 + 1 + 1) ((((w.alloc (χ #[O ι xs.length, O ι a0, O ι a1, O ι a2, O ι a3, O ι s0, O ι s1, O ι s2, O ι s3, O ι off, O ι st, O ι dt, σ su cs.length cu] 85)).alloc (χ #[O ι xs.length, O ι a0, O ι a1, O ι a2, O ι a3] 81)).alloc (χ (madeCells #[O ι 0, .float .f64 0, .float .f64 0] (P.toNat * 3)) 66)).alloc (χ #[σ (some ⟨w.heap.size + 1 + 1, 0, none⟩) 0 P.toNat] 61)) (by simp))
 have X2 := hide x2.bl
 have HC12 := hide c12
 have HCV := hide hcv
 have Hs2 := hide hs2
 clear hst x2 c12 hcv hs2
 refine callsIn_of_wp_marks Tryz.func40 rfl trivial ?_ rfl
 simp only [Tryz.ntmps40, List.size_toArray, List.length_cons, List.length_nil, Nat.reduceAdd, Nat.reduceSub, Array.replicate_succ, Array.replicate_zero, List.push_toArray, List.append_toArray, List.nil_append, List.cons_append]
 gi_wp2
 refine ⟨trivial, hdd _, ?_⟩
 refine (callsIn_wide.2 (hcnt.out _)).mono ?_
 rintro e w2 ⟨rfl, hw2⟩
 have hmk2 := hmk w2
 gi_wp2
 refine ⟨trivial, hdd _, ?_⟩
 refine (hpl.out _ _).mono ?_
 rintro e w' ⟨rfl, rfl⟩
 clear hpl hmk2 hmk hcnt hw2
 have h1 : 1 ≤ n := by omega
 gi_wp2
 generalize hW0 : World.alloc ((((w.alloc (χ #[O ι xs.length, O ι a0, O ι a1, O ι a2, O ι a3, O ι s0, O ι s1, O ι s2, O ι s3, O ι off, O ι st, O ι dt, σ su cs.length cu] 85)).alloc (χ #[O ι xs.length, O ι a0, O ι a1, O ι a2, O ι a3] 81)).alloc _).alloc _) _ = W0 at O0 hst2 ⊢
 clear hW0
 generalize hW2 : ((w.alloc (χ #[O ι xs.length, O ι a0, O ι a1, O ι a2, O ι a3, O ι s0, O ι s1, O ι s2, O ι s3, O ι off, O ι st, O ι dt, σ su cs.length cu] 85)).alloc (χ #[O ι xs.length, O ι a0, O ι a1, O ι a2, O ι a3] 81)) = W2 at O0 X2 HC12 Hs2
 clear hW2
 have hsz := O0.out.size
 have hs2 := Hs2.out
 have hbl := O0.out.bl
 rw [← hs2] at hbl
 obtain ⟨i0, hi0, hz0, hz1, hz2⟩ := info_parts zx4
 refine wpIn_rangeFunc_ownF rfl h1 (gf := 119) (lb := #[π (some ⟨w.heap.size + 1 + 1 + 1 + 1, 0, none⟩)]) rfl trivial (enters_of Tryz.func119 (by kernel_rfl) rfl)
  hst2.out (fun h k => KC.trans h k) (fun W l o o' h1 h2 h3 h4 => zo19 W l o o' h1 h2 h3 h4) (Below.refl _ _) (fun _ => rfl)
  (fun pre W => (∃ v, Boxed W (w.heap.size + 1 + 1 + 1) 61 v ∧ W.ownsRow (w.heap.size + 1 + 1) 66 3 v pre.length (flat ((pnv pre).map fun p => cs.getD p.toNat k0)) ∧ v = σ (some ⟨w.heap.size + 1 + 1, 0, none⟩) pre.length P.toNat) ∧ Below W2.heap.size W2 W)
  (fun _ _ _ => False)
  (OwnFrom.and (Own.from (holdsRow_own (w.heap.size + 1 + 1) (w.heap.size + 1 + 1 + 1) 61 66 3 (fun pre : List (PlN (cs.length : Int)) => pre.length) (fun pre => flat ((pnv pre).map fun p => cs.getD p.toNat k0)) (fun pre v => v = σ (some ⟨w.heap.size + 1 + 1, 0, none⟩) pre.length P.toNat)) _) (ownFrom_below (Nat.le_refl _) (by omega)))
  (fun _ _ _ _ _ hs _ _ => hs)
  ⟨⟨_, O0.out.box, O0.out.row, rfl⟩, hbl⟩
  (fun x => { tmps := #[γ #[O ι xs.length, O ι a0, O ι a1, O ι a2, O ι a3, O ι s0, O ι s1, O ι s2, O ι s3, O ι off, O ι st, O ι dt, σ su cs.length cu], π (some ⟨w.heap.size, 0, none⟩), σ none 0 0, π (some ⟨w.heap.size + 1 + 1 + 1, 0, none⟩), O ι x.1, π (some ⟨w.heap.size, 0, none⟩), π (some ⟨w.heap.size, 0, none⟩), γ #[O ι xs.length, O ι a0, O ι a1, O ι a2, O ι a3], O ι P, σ (some ⟨w.heap.size + 1 + 1, 0, none⟩) 0 P.toNat, π (some ⟨w.heap.size, 0, none⟩), γ #[O ι xs.length, O ι a0, O ι a1, O ι a2, O ι a3, O ι s0, O ι s1, O ι s2, O ι s3, O ι off], .func (.func 119) #[] #[π (some ⟨w.heap.size + 1 + 1 + 1 + 1, 0, none⟩)], O ι x.1, undef, undef, undef, undef, undef, undef, undef, undef, undef], defers := [] }) ?assign ?body ?done ?stop
 case assign =>
  intro l x W K hK
  gi_wp2
  exact hK
 case body =>
  rintro l pre ⟨x, hx⟩ W ⟨⟨v, hbox, hrow, rfl⟩, hB⟩ hlen
  obtain ⟨k, rfl⟩ : ∃ k : Nat, x = k := ⟨x.toNat, by omega⟩
  have hc0 := hbox.cell
  have hf0 := hbox.frozen
  have hWs := hbox.lt
  have ha := Bel.box hB HC12.out
  have hkl : k < cs.length := by omega
  rcases HCV.out with ⟨su2, cu2, e2, h0 | ⟨bc, oc, e3, hrowC⟩⟩
  ·rw [h0] at hkl; simp at hkl
  injection e2 with e4 _ _
  subst e4
  subst e3
  have hk0 : (0 : Int) ≤ (k : Int) := Int.natCast_nonneg _
  have hk1 : (k : Int) < (cs.length : Int) := by omega
  obtain ⟨t0, t1, t2⟩ := hrowC k hkl
  have hgd : Hid ((fun p : Int => cs.getD p.toNat k0) (k : Int) = cs.getD k k0) := by show cs.getD (k : Int).toNat k0 = _; rw [Int.toNat_natCast]
  generalize cs.getD k k0 = cx at t0 t1 t2 hgd
  obtain ⟨A, B, C⟩ := cx
  have hSB : Hid (∀ W' : World, Below W2.heap.size W2 W' → (fun w' : World => w'.cell? ⟨w.heap.size, 12, none⟩ = some (σ (some ⟨bc, oc, none⟩) cs.length cu) ∧ w'.cell? ⟨bc, oc + k * 3, none⟩ = some (O ι A) ∧ w'.cell? ⟨bc, oc + k * 3 + 1, none⟩ = some (.float .f64 B) ∧ w'.cell? ⟨bc, oc + k * 3 + 2, none⟩ = some (.float .f64 C)) W') := fun W' h' => ⟨Bel.box h' HC12.out, Bel.box h' (Bel.box X2.out t0), Bel.box h' (Bel.box X2.out t1), Bel.box h' (Bel.box X2.out t2)⟩
  have HS0 : Hid ((fun w' : World => w'.cell? ⟨w.heap.size, 12, none⟩ = some (σ (some ⟨bc, oc, none⟩) cs.length cu) ∧ w'.cell? ⟨bc, oc + k * 3, none⟩ = some (O ι A) ∧ w'.cell? ⟨bc, oc + k * 3 + 1, none⟩ = some (.float .f64 B) ∧ w'.cell? ⟨bc, oc + k * 3 + 2, none⟩ = some (.float .f64 C)) W.drew) := hSB.out W hB
  clear hrowC t0 t1 t2 ha
  gi_wp2
  refine zq10 (S := (fun w' : World => w'.cell? ⟨w.heap.size, 12, none⟩ = some (σ (some ⟨bc, oc, none⟩) cs.length cu) ∧ w'.cell? ⟨bc, oc + k * 3, none⟩ = some (O ι A) ∧ w'.cell? ⟨bc, oc + k * 3 + 1, none⟩ = some (.float .f64 B) ∧ w'.cell? ⟨bc, oc + k * 3 + 2, none⟩ = some (.float .f64 C))) (by kernel_rfl) (by rfl) ?_
  refine wpAnyH_take (i := 1) (oi := { dst := some 15, op := Op.fieldAddr 85 (Operand.tmp 1) 3, type := 0, pos := _, after := #[], guard := none }) (v := (π (some ⟨w.heap.size, 12, none⟩))) rfl (by kernel_rfl) (by kernel_rfl) (by kernel_rfl) (fun _ _ _ h => by cases h.1) (Or.inl ⟨by rfl, ?_⟩) HS0.out ?_
  ·rintro w' ⟨z0, z1, z2, z3⟩
   go_simp
  simp only [aP, sT, sZ, sS]
  refine wpAnyH_take (i := 2) (oi := { dst := some 16, op := Op.load 61 (Operand.tmp 15), type := 61, pos := _, after := #[{ on := 1, ground := Ground.data }], guard := none }) (v := (σ (some ⟨bc, oc, none⟩) cs.length cu)) rfl (by kernel_rfl) (by kernel_rfl) (by kernel_rfl) (fun _ _ _ h => by cases h.1) (Or.inl ⟨by rfl, ?_⟩) HS0.out ?_
  ·rintro w' ⟨z0, z1, z2, z3⟩
   go_simp
  simp only [aP, sT, sZ, sS]
  refine wpAnyH_take (i := 3) (oi := { dst := some 17, op := Op.move (Operand.tmp 4), type := 2, pos := _, after := #[], guard := none }) (v := (O ι (k : Int))) rfl (by kernel_rfl) (by kernel_rfl) (by kernel_rfl) (fun _ _ _ h => by cases h.1) (Or.inl ⟨by rfl, ?_⟩) HS0.out ?_
  ·rintro w' ⟨z0, z1, z2, z3⟩
   go_simp
  simp only [aP, sT, sZ, sS]
  refine wpAnyH_take (i := 4) (oi := { dst := some 18, op := Op.indexAddr 61 (Operand.tmp 16) (Operand.tmp 17), type := 0, pos := _, after := #[{ on := 2, ground := Ground.data }, { on := 3, ground := Ground.data }], guard := none }) (v := (π (some ⟨bc, oc + k * 3, none⟩))) rfl (by kernel_rfl) (by kernel_rfl) (by kernel_rfl) (fun _ _ _ h => by cases h.1) (Or.inl ⟨by rfl, ?_⟩) HS0.out ?_
  ·rintro w' ⟨z0, z1, z2, z3⟩
   go_simp
  simp only [aP, sT, sZ, sS]
  refine wpAnyH_take (i := 5) (oi := { dst := some 19, op := Op.load 66 (Operand.tmp 18), type := 66, pos := _, after := #[{ on := 4, ground := Ground.data }], guard := none }) (v := (γ #[O ι A, .float .f64 B, .float .f64 C])) rfl (by kernel_rfl) (by kernel_rfl) (by kernel_rfl) (fun _ _ _ h => by cases h.1) (Or.inl ⟨by rfl, ?_⟩) HS0.out ?_
  ·rintro w' ⟨z0, z1, z2, z3⟩
   go_simp
  simp only [aP, sT, sZ, sS]
  have HN := hide (World.news_of_block (w := (W.alloc (χ #[O ι A, .float .f64 B, .float .f64 C] 66)).drew) (cs := #[O ι A, .float .f64 B, .float .f64 C]) (t := 66) (fr := (0, 0)) (heap_alloc_new W _))
  have HS1 : Hid ((fun w' : World => w'.cell? ⟨w.heap.size, 12, none⟩ = some (σ (some ⟨bc, oc, none⟩) cs.length cu) ∧ w'.cell? ⟨bc, oc + k * 3, none⟩ = some (O ι A) ∧ w'.cell? ⟨bc, oc + k * 3 + 1, none⟩ = some (.float .f64 B) ∧ w'.cell? ⟨bc, oc + k * 3 + 2, none⟩ = some (.float .f64 C)) (W.alloc (χ #[O ι A, .float .f64 B, .float .f64 C] 66)).drew) := hSB.out (W.alloc (χ #[O ι A, .float .f64 B, .float .f64 C] 66)) (hB.alloc hB.size _)
  have hb1 : pre.length + 1 ≤ P.toNat := by omega
  have hWs2 := hB.size
  refine wpAnyH_ready (rs := [0, 6]) (by kernel_rfl) (by simp) ?_
  refine AllReadyH.cons (o := { dst := some 14, op := Op.load 61 (Operand.tmp 3), type := 61, pos := _, after := #[], guard := none }) rfl (fun K hK => ?_) (AllReadyH.cons (o := { dst := some 20, op := Op.buildSlice 61 1 #[(0, Operand.tmp 19)], type := 61, pos := _, after := #[{ on := 5, ground := Ground.data }], guard := none }) rfl (fun K hK => ?_) AllReadyH.nil)
  ·go_simp
   refine hK.out _ _ HS0.out (fun _ => ?_)
   clear hK K
   try simp only [aP, sT, sZ, sS]
   refine wpAnyH_ready (rs := [6]) (by kernel_rfl) (by simp) ?_
   refine AllReadyH.cons (o := { dst := some 20, op := Op.buildSlice 61 1 #[(0, Operand.tmp 19)], type := 61, pos := _, after := #[{ on := 5, ground := Ground.data }], guard := none }) rfl (fun K hK => ?_) AllReadyH.nil
   go_simp
   refine hK.out _ _ HS1.out (fun _ => ?_)
   clear hK K
   try simp only [aP, sT, sZ, sS]
   refine wpAnyH_ready (rs := [7]) (by kernel_rfl) (by simp) ?_
   refine AllReadyH.cons (o := { dst := some 21, op := Op.call { callee := Callee.builtin Builtin.append, args := #[Operand.tmp 14, Operand.tmp 20], argTypes := #[61, 61] }, type := 61, pos := _, after := #[{ on := 0, ground := Ground.data }, { on := 6, ground := Ground.data }], guard := none }) rfl (fun K hK => ?_) AllReadyH.nil
   refine zs1 (by rfl) (.tmp 14) (.tmp 20) 61 (by rfl) (w.heap.size + 1 + 1) 66 i0 3 Tryz.underlying61 hi0 hz1 (w.heap.size + 1 + 1) pre.length P.toNat _ (by rfl) ((hrow.alloc _).drew) ⟨W.heap.size, 0, none⟩ 1 1 (c3v (A, B, C)) (by rfl) (by rfl) HN.out (zt7 _) hb1 ?_
   intro w3 hown3 hgrow3
   have hgrow4 : (W.alloc (χ #[O ι A, .float .f64 B, .float .f64 C] 66)).grownBy w3 (some (w.heap.size + 1 + 1)) := ⟨hgrow3.os, hgrow3.tape, hgrow3.output, hgrow3.size, hgrow3.block⟩
   obtain ⟨hv1, hv2, hr2, hk2, hb2⟩ := hbox.appended (by decide) hrow (by omega) (by omega) hown3 hgrow4
   have hb3 : Below W2.heap.size W (w3.setCell ⟨w.heap.size + 1 + 1 + 1, 0, none⟩ (σ (some ⟨w.heap.size + 1 + 1, 0, none⟩) (pre.length + 1) P.toNat)) := by rw [hs2]; exact hb2
   have HB4 := hide (hB.trans hb3)
   have HB3 := hide (Below.grown (hB.alloc hB.size (χ #[O ι A, .float .f64 B, .float .f64 C] 66)) hgrow4 (by simp; omega) (fun j hj => by cases hj; omega))
   have hc1 := hv1.cell
   have hf1 := hv1.frozen
   refine hK.out _ _ (hSB.out _ HB3.out) (fun _ => ?_)
   clear hK K
   try simp only [aP, sT, sZ, sS]
   refine wpAnyH_ready (rs := [8]) (by kernel_rfl) (by simp) ?_
   refine AllReadyH.cons (o := { dst := none, op := Op.store 61 (Operand.tmp 3) (Operand.tmp 21), type := 0, pos := _, after := #[{ on := 7, ground := Ground.data }, { on := 7, ground := Ground.chain }, { on := 0, ground := Ground.phase }, { on := 1, ground := Ground.phase }, { on := 2, ground := Ground.phase }, { on := 3, ground := Ground.phase }, { on := 4, ground := Ground.phase }, { on := 5, ground := Ground.phase }, { on := 6, ground := Ground.phase }, { on := 7, ground := Ground.phase }], guard := none }) rfl (fun K hK => ?_) AllReadyH.nil
   go_simp
   refine hK.out _ _ (hSB.out _ HB4.out) (fun _ => ?_)
   refine wpAnyH_done (by kernel_rfl) ?_ _
   refine ⟨rfl, ?_⟩
   refine ⟨hk2, ((KC.alloc _ W _).trans (KC.grown hgrow4 (by omega))).trans (KC.setCell w3 (p := ⟨w.heap.size + 1 + 1 + 1, 0, none⟩) (by show w.heap.size + 1 + 1 + 1 < _; omega) _), ⟨_, hv2, ?_, ?_⟩, HB4.out⟩
   ·rw [zd3, List.map_append]
    show World.ownsRow _ _ _ _ _ _ (flat (_ ++ [cs.getD (k : Int).toNat k0]))
    rw [show cs.getD (k : Int).toNat k0 = (A, B, C) from hgd.out, ze6, List.length_append]
    exact hr2
   ·simp
  ·go_simp
   refine hK.out _ _ HS1.out (fun _ => ?_)
   clear hK K
   try simp only [aP, sT, sZ, sS]
   refine wpAnyH_ready (rs := [0]) (by kernel_rfl) (by simp) ?_
   refine AllReadyH.cons (o := { dst := some 14, op := Op.load 61 (Operand.tmp 3), type := 61, pos := _, after := #[], guard := none }) rfl (fun K hK => ?_) AllReadyH.nil
   have hc0a : (W.alloc (χ #[O ι A, .float .f64 B, .float .f64 C] 66)).cell? ⟨w.heap.size + 1 + 1 + 1, 0, none⟩ = some (σ (some ⟨w.heap.size + 1 + 1, 0, none⟩) pre.length P.toNat) := zs7 _ hc0
   go_simp
   refine hK.out _ _ HS1.out (fun _ => ?_)
   clear hK K
   try simp only [aP, sT, sZ, sS]
   refine wpAnyH_ready (rs := [7]) (by kernel_rfl) (by simp) ?_
   refine AllReadyH.cons (o := { dst := some 21, op := Op.call { callee := Callee.builtin Builtin.append, args := #[Operand.tmp 14, Operand.tmp 20], argTypes := #[61, 61] }, type := 61, pos := _, after := #[{ on := 0, ground := Ground.data }, { on := 6, ground := Ground.data }], guard := none }) rfl (fun K hK => ?_) AllReadyH.nil
   refine zs1 (by rfl) (.tmp 14) (.tmp 20) 61 (by rfl) (w.heap.size + 1 + 1) 66 i0 3 Tryz.underlying61 hi0 hz1 (w.heap.size + 1 + 1) pre.length P.toNat _ (by rfl) ((hrow.alloc _).drew) ⟨W.heap.size, 0, none⟩ 1 1 (c3v (A, B, C)) (by rfl) (by rfl) HN.out (zt7 _) hb1 ?_
   intro w3 hown3 hgrow3
   have hgrow4 : (W.alloc (χ #[O ι A, .float .f64 B, .float .f64 C] 66)).grownBy w3 (some (w.heap.size + 1 + 1)) := ⟨hgrow3.os, hgrow3.tape, hgrow3.output, hgrow3.size, hgrow3.block⟩
   obtain ⟨hv1, hv2, hr2, hk2, hb2⟩ := hbox.appended (by decide) hrow (by omega) (by omega) hown3 hgrow4
   have hb3 : Below W2.heap.size W (w3.setCell ⟨w.heap.size + 1 + 1 + 1, 0, none⟩ (σ (some ⟨w.heap.size + 1 + 1, 0, none⟩) (pre.length + 1) P.toNat)) := by rw [hs2]; exact hb2
   have HB4 := hide (hB.trans hb3)
   have HB3 := hide (Below.grown (hB.alloc hB.size (χ #[O ι A, .float .f64 B, .float .f64 C] 66)) hgrow4 (by simp; omega) (fun j hj => by cases hj; omega))
   have hc1 := hv1.cell
   have hf1 := hv1.frozen
   refine hK.out _ _ (hSB.out _ HB3.out) (fun _ => ?_)
   clear hK K
   try simp only [aP, sT, sZ, sS]
   refine wpAnyH_ready (rs := [8]) (by kernel_rfl) (by simp) ?_
   refine AllReadyH.cons (o := { dst := none, op := Op.store 61 (Operand.tmp 3) (Operand.tmp 21), type := 0, pos := _, after := #[{ on := 7, ground := Ground.data }, { on := 7, ground := Ground.chain }, { on := 0, ground := Ground.phase }, { on := 1, ground := Ground.phase }, { on := 2, ground := Ground.phase }, { on := 3, ground := Ground.phase }, { on := 4, ground := Ground.phase }, { on := 5, ground := Ground.phase }, { on := 6, ground := Ground.phase }, { on := 7, ground := Ground.phase }], guard := none }) rfl (fun K hK => ?_) AllReadyH.nil
   go_simp
   refine hK.out _ _ (hSB.out _ HB4.out) (fun _ => ?_)
   refine wpAnyH_done (by kernel_rfl) ?_ _
   refine ⟨rfl, ?_⟩
   refine ⟨hk2, ((KC.alloc _ W _).trans (KC.grown hgrow4 (by omega))).trans (KC.setCell w3 (p := ⟨w.heap.size + 1 + 1 + 1, 0, none⟩) (by show w.heap.size + 1 + 1 + 1 < _; omega) _), ⟨_, hv2, ?_, ?_⟩, HB4.out⟩
   ·rw [zd3, List.map_append]
    show World.ownsRow _ _ _ _ _ _ (flat (_ ++ [cs.getD (k : Int).toNat k0]))
    rw [show cs.getD (k : Int).toNat k0 = (A, B, C) from hgd.out, ze6, List.length_append]
    exact hr2
   ·simp
 case done =>
  rintro D ys W hD hS ⟨⟨v, hbox, hrow, rfl⟩, hB⟩ hK
  have hc0 := hbox.cell
  gi_wp2
  refine ⟨by simp, .inl ⟨_, _, rfl, run_takeDeferred hK, ?_⟩⟩
  refine ⟨_, results_tmp rfl _ _ _, ?_⟩
  have hrow2 := hrow.kept (grownBy_putObj' W D (.deferred none)) (.inr (fun e => by
   have : w.heap.size + 1 + 1 = D := by simpa [Value.ownBlock] using e
   omega))
  obtain ⟨sa3, cap3, e3, o3⟩ := zq4 (lo := w.heap.size) (by omega) hrow2
  have hcap : ((pnv ys).map fun p => cs.getD p.toNat k0).length ≤ cap3 := by
   injection e3 with _ _ e9
   rw [List.length_map, hS, ← e9]
   exact hOP
  rw [← hS]
  refine ⟨sa3, cap3, ?_, o3, Bel.tr X2.out (hB.trans (belowK_b (w := W2) (Nat.le_refl _) W D _ _ (by omega) hK rfl rfl)), hcap⟩
  rw [← e3]
  rfl
 case stop =>
  rintro D c pre W _ _ h _
  exact h.elim
end
section
open Go.ChangeShapes Go.RowKit Go.Shelf FL
attribute [local go_sem] Oper.semAt_some
structure Sm1 (b : Nat) (W W' : World) : Prop where
 cell : ∀ c q x, W.cell? ⟨c, q, none⟩ = some x → W'.cell? ⟨c, q, none⟩ = some x
 mu : Mut b W W'
def laneF (RL : List C3) (K i : Nat) : List Nat := ((RL.drop (i * K)).take K).map (·.2.1)
structure RwI (w0 : World) (zx27 base K : Nat) (RL : List C3) (L : List Nat) (W : World) : Prop where
 ex : ∃ (rv : Value) (bs : List Nat), W.cell? ⟨zx27, 0, none⟩ = some rv ∧ W.ownsRow base 67 1 rv L.length (bs.map fun b => σ (some ⟨b, 0, none⟩) K K) ∧ bs.length = L.length ∧
  (∀ i, i < L.length → FRow W (bs.getD i 0) (laneF RL K (L.getD i 0)) ∧ (laneF RL K (L.getD i 0)).length = K ∧ base ≤ bs.getD i 0 ∧ bs.getD i 0 < W.heap.size ∧ rv.ownBlock ≠ some (bs.getD i 0)) ∧ (∀ i j, i < j → j < L.length → bs.getD i 0 < bs.getD j 0)
 fz : ∀ o, W.frozen? ⟨zx27, o, none⟩ = w0.frozen? ⟨zx27, o, none⟩
 r1 : ∀ o x, o ≠ 0 → w0.cell? ⟨zx27, o, none⟩ = some x → W.cell? ⟨zx27, o, none⟩ = some x
 keep : ∀ c o x, c < base → c ≠ zx27 → w0.cell? ⟨c, o, none⟩ = some x → W.cell? ⟨c, o, none⟩ = some x
theorem zy4 {α : Type} (l : List α) (a d : α) (i : Nat) : (l ++ [a]).getD i d = if i < l.length then l.getD i d else if i = l.length then a else d := by
 simp only [List.getD_eq_getElem?_getD]
 by_cases h : i < l.length
 ·rw [if_pos h, List.getElem?_append_left h]
 ·rw [if_neg h]
  by_cases e : i = l.length
  ·subst e; simp
  ·rw [if_neg e, List.getElem?_append_right (by omega)]
   rw [List.getElem?_eq_none (by simp; omega)]
   rfl
structure Rows (w : World) (zx27 K : Nat) (RL : List C3) (w' : World) (g cap : Nat) (bs : List Nat) : Prop where
 box : w'.cell? ⟨zx27, 0, none⟩ = some (σ (some ⟨g, 0, none⟩) K cap)
 r1 : ∀ o x, o ≠ 0 → w.cell? ⟨zx27, o, none⟩ = some x → w'.cell? ⟨zx27, o, none⟩ = some x
 fz : ∀ o, w'.frozen? ⟨zx27, o, none⟩ = w.frozen? ⟨zx27, o, none⟩
 out : ∀ i, i < K → w'.cell? ⟨g, i, none⟩ = some (σ (some ⟨bs.getD i 0, 0, none⟩) K K)
 ofz : ∀ o, w'.frozen? ⟨g, o, none⟩ = false
 len : bs.length = K
 row : ∀ i, i < K → FRow w' (bs.getD i 0) (laneF RL K i) ∧ (laneF RL K i).length = K ∧ w.heap.size ≤ bs.getD i 0 ∧ bs.getD i 0 ≠ g
 inc : ∀ i j, i < j → j < K → bs.getD i 0 < bs.getD j 0
 glo : w.heap.size ≤ g
 keep : ∀ c o x, c ≠ zx27 → w.cell? ⟨c, o, none⟩ = some x → w'.cell? ⟨c, o, none⟩ = some x
 bl : Below zx27 w w'
 size : w.heap.size ≤ w'.heap.size
end
section
open Go.RowKit FL Go.ChangeShapes
def fcells (L : List Nat) : List C3 := L.map fun x => (0, x, 0)
end
section
open Go.ChangeShapes Go.RowKit FL

end
section
open Go.ChangeShapes Go.RowKit FL
structure HSp (w : World) (lo g : Nat) (cb : Nat → Nat) (ss : List St) : Prop where
 dt : ∀ j, j < ss.length → w.cell? ⟨g, j * 2, none⟩ = some (O ι (ss.getD j s0).1)
 sl : ∀ j, j < ss.length → ∃ sa cap, w.cell? ⟨g, j * 2 + 1, none⟩ = some (σ sa (ss.getD j s0).2.length cap) ∧ ((ss.getD j s0).2 = [] ∨ sa = some ⟨cb j, 0, none⟩)
 row : ∀ j, j < ss.length → (ss.getD j s0).2 ≠ [] → CRow w (cb j) 0 (ss.getD j s0).2
 fzr : ∀ j, j < ss.length → (ss.getD j s0).2 ≠ [] → ∀ o, w.frozen? ⟨cb j, o, none⟩ = false
 lo_g : lo ≤ g
 ne : ∀ j, j < ss.length → (ss.getD j s0).2 ≠ [] → cb j ≠ g ∧ lo ≤ cb j
 nd : ∀ i j, i < j → j < ss.length → (ss.getD i s0).2 ≠ [] → (ss.getD j s0).2 ≠ [] → cb i ≠ cb j
theorem HSp.sv {w : World} {lo g cap : Nat} {cb : Nat → Nat} {ss : List St} (h : HSp w lo g cb ss) : SV w (σ (some ⟨g, 0, none⟩) ss.length cap) ss := by
 refine ⟨_, cap, rfl, Or.inr ⟨g, 0, rfl, fun j hj => ?_⟩⟩
 rw [Nat.zero_add]
 obtain ⟨sa, cp, h1, h2⟩ := h.sl j hj
 refine ⟨h.dt j hj, _, h1, sa, cp, rfl, ?_⟩
 by_cases e : (ss.getD j s0).2 = []
 ·exact Or.inl e
 ·exact Or.inr ⟨cb j, 0, h2.resolve_left e, h.row j hj e⟩
structure LcSt (w : World) (ss : List St) (k : Nat) (rv : Value) (U : Nat → Value) (cb : Nat → Nat) (wr : World) : Prop where
 bl : Bel w wr
 b0 : wr.cell? ⟨w.heap.size + 2, 0, none⟩ = some rv
 own : wr.ownsRow (w.heap.size + 3) 123 2 rv k (flatS U ss k)
 rs0 : wr.cell? ⟨w.heap.size + 1, 0, none⟩ = some (σ none 0 0)
 f1 : wr.frozen? ⟨w.heap.size + 1, 0, none⟩ = false
 f2 : wr.frozen? ⟨w.heap.size + 2, 0, none⟩ = false
 fzr : ∀ j, j < k → (ss.getD j s0).2 ≠ [] → ∀ o, wr.frozen? ⟨cb j, o, none⟩ = false
 us : ∀ j, j < k → ∃ sa cap, U j = σ sa (ss.getD j s0).2.length cap ∧ ((ss.getD j s0).2 = [] ∨ sa = some ⟨cb j, 0, none⟩)
 row : ∀ j, j < k → (ss.getD j s0).2 ≠ [] → CRow wr (cb j) 0 (ss.getD j s0).2
 lt : ∀ j, j < k → (ss.getD j s0).2 ≠ [] → w.heap.size + 3 ≤ cb j ∧ cb j < wr.heap.size ∧ rv.ownBlock ≠ some (cb j)
 inc : ∀ i j, i < j → j < k → (ss.getD i s0).2 ≠ [] → (ss.getD j s0).2 ≠ [] → cb i < cb j
theorem zq23 {w : World} {base e size n : Nat} {v : Value} {xs : List Value} (h : w.ownsRow base e size v n xs) {b o : Nat} {u : Value} (hb : v.ownBlock ≠ some b) : (w.setCell ⟨b, o, none⟩ u).ownsRow base e size v n xs := by
 refine ⟨h.1, ?_⟩
 rcases h.2 with h | ⟨g, cap, cur, rfl, h1, h2, h3⟩
 ·exact Or.inl h
 ·exact Or.inr ⟨g, cap, cur, rfl, h1, (Below.heap_setCell _ _ _ _ (fun e => hb (congrArg some e))).trans h2, h3⟩
theorem LcSt.step {w : World} {ss : List St} {k : Nat} {rv : Value} {U : Nat → Value} {cb : Nat → Nat} {wr : World} (h : LcSt w ss k rv U cb wr) {W5 w7 : World} (b5 : Bel wr W5) {tmp : Obj} (V : Value) (c g cap : Nat)
  (hV : ∃ sa cap, V = σ sa (ss.getD k s0).2.length cap ∧ ((ss.getD k s0).2 = [] ∨ sa = some ⟨c, 0, none⟩))
  (hr : (ss.getD k s0).2 ≠ [] → CRow W5 c 0 (ss.getD k s0).2 ∧ wr.heap.size ≤ c ∧ ∀ o, W5.frozen? ⟨c, o, none⟩ = false)
  (hown : w7.ownsRow (w.heap.size + 3) 123 2 (σ (some ⟨g, 0, none⟩) (k + 1) cap) (k + 1) (flatS U ss k ++ [O ι (ss.getD k s0).1, V])) (hgrow : (W5.alloc tmp).grownBy w7 rv.ownBlock) (hat : rv.ownBlock = some g ∨ g = W5.heap.size + 1) :
  LcSt w ss (k + 1) (σ (some ⟨g, 0, none⟩) (k + 1) cap) (fun j => if j = k then V else U j) (fun j => if j = k then c else cb j) (w7.setCell ⟨w.heap.size + 2, 0, none⟩ (σ (some ⟨g, 0, none⟩) (k + 1) cap)) := by
 have hs2 := zj h.b0
 have hs5 := Below.size b5
 have hs7 := hgrow.size
 rw [World.size_alloc] at hs7
 have hov : ∀ c, rv.ownBlock = some c → w.heap.size + 3 ≤ c ∧ c < wr.heap.size := fun c hc => h.own.lt c hc
 have hb7 : ∀ b, b < W5.heap.size → rv.ownBlock ≠ some b → w7.heap[b]? = W5.heap[b]? := fun b hb hn => by
  rw [hgrow.block b (by rw [World.size_alloc]; omega) (fun e => hn e.symm)]
  exact ((Below.refl W5.heap.size W5).alloc (Nat.le_refl _) tmp).block b hb
 have hb8 : ∀ b, b < W5.heap.size → rv.ownBlock ≠ some b → b ≠ w.heap.size + 2 → (w7.setCell ⟨w.heap.size + 2, 0, none⟩ (σ (some ⟨g, 0, none⟩) (k + 1) cap)).heap[b]? = W5.heap[b]? := fun b hb hn hn2 => (Below.heap_setCell _ _ _ _ hn2).trans (hb7 b hb hn)
 have hb9 : ∀ b, b < wr.heap.size → rv.ownBlock ≠ some b → b ≠ w.heap.size + 2 → (w7.setCell ⟨w.heap.size + 2, 0, none⟩ (σ (some ⟨g, 0, none⟩) (k + 1) cap)).heap[b]? = wr.heap[b]? := fun b hb hn hn2 => (hb8 b (by omega) hn hn2).trans (Below.block b5 b hb)
 have hno : ∀ b, b < w.heap.size + 3 → rv.ownBlock ≠ some b := fun b hb e => by have := hov b e; omega
 have hc2 : w7.cell? ⟨w.heap.size + 2, 0, none⟩ = some rv := (World.cell?_of_block (w := wr) (a := ⟨w.heap.size + 2, 0, none⟩) ((hb7 (w.heap.size + 2) (by omega) (hno _ (by omega))).trans (Below.block b5 (w.heap.size + 2) (by omega)))).trans h.b0
 have hcell : ∀ {b o v}, w.heap.size + 2 < b → rv.ownBlock ≠ some b → W5.cell? ⟨b, o, none⟩ = some v → (w7.setCell ⟨w.heap.size + 2, 0, none⟩ (σ (some ⟨g, 0, none⟩) (k + 1) cap)).cell? ⟨b, o, none⟩ = some v := fun {b o v} hb hn hc => (World.cell?_of_block (w := W5) (a := ⟨b, o, none⟩) (hb8 b (zj hc) hn (by omega))).trans hc
 have hcw : (ss.getD k s0).2 ≠ [] → rv.ownBlock ≠ some c ∧ c < W5.heap.size ∧ wr.heap.size ≤ c := fun hne => by
  obtain ⟨r1, r2, r3⟩ := hr hne
  have hlt := zj (r1 0 (List.length_pos_iff.2 hne)).1
  exact ⟨fun e => by have := hov c e; omega, hlt, r2⟩
 refine ⟨⟨?_, ?_, ?_, ?_, fun b hb => ?_⟩, ?_, ?_, ?_, ?_, ?_, fun j hj hne o => ?_, fun j hj => ?_, fun j hj hne => ?_, fun j hj hne => ?_, fun i j hij hj hi hjn => ?_⟩
 ·exact hgrow.os.trans (b5.os.trans h.bl.os)
 ·exact hgrow.tape.trans (b5.tape.trans h.bl.tape)
 ·exact hgrow.output.trans (b5.output.trans h.bl.output)
 ·have := Below.size h.bl; simp [World.setCell]; omega
 ·exact (hb9 b (by have := Below.size h.bl; omega) (hno b (by omega)) (by omega)).trans (Below.block h.bl b hb)
 ·exact World.cell?_setCell_same _ _ _ hc2
 ·rw [flatS, if_pos rfl, zp7 (V := U) (fun j hj => if_neg (by omega))]
  refine hown.kept (grownBy_setCell' w7 (w.heap.size + 2) _) (.inr (fun e => ?_))
  have := zi15 hown (by omega)
  simp [Value.ownBlock] at e
  omega
 ·exact (World.cell?_of_block (w := wr) (a := ⟨w.heap.size + 1, 0, none⟩) (hb9 (w.heap.size + 1) (by omega) (hno _ (by omega)) (by omega))).trans h.rs0
 ·exact (World.frozen?_of_block (w := wr) (a := ⟨w.heap.size + 1, 0, none⟩) (hb9 (w.heap.size + 1) (by omega) (hno _ (by omega)) (by omega))).trans h.f1
 ·rw [World.frozen?_setCell]
  exact (World.frozen?_of_block (w := wr) (a := ⟨w.heap.size + 2, 0, none⟩) ((hb7 (w.heap.size + 2) (by omega) (hno _ (by omega))).trans (Below.block b5 (w.heap.size + 2) (by omega)))).trans h.f2
 ·by_cases e : j = k
  ·subst e
   rw [if_pos rfl]
   obtain ⟨q1, q2, q3⟩ := hcw hne
   exact (World.frozen?_of_block (w := W5) (a := ⟨c, o, none⟩) (hb8 c q2 q1 (by omega))).trans ((hr hne).2.2 o)
  ·rw [if_neg e]
   have hl := h.lt j (by omega) hne
   exact (World.frozen?_of_block (w := wr) (a := ⟨cb j, o, none⟩) (hb9 (cb j) hl.2.1 hl.2.2 (by omega))).trans (h.fzr j (by omega) hne o)
 ·by_cases e : j = k
  ·subst e; rw [if_pos rfl, if_pos rfl]; exact hV
  ·rw [if_neg e, if_neg e]; exact h.us j (by omega)
 ·by_cases e : j = k
  ·subst e
   rw [if_pos rfl]
   obtain ⟨q1, q2, q3⟩ := hcw hne
   have r1 := (hr hne).1
   exact fun i hi => ⟨hcell (by omega) q1 (r1 i hi).1, hcell (by omega) q1 (r1 i hi).2.1, hcell (by omega) q1 (r1 i hi).2.2⟩
  ·rw [if_neg e]
   have hl := h.lt j (by omega) hne
   have hrw := (h.row j (by omega) hne).keep b5
   exact fun i hi => ⟨hcell (by omega) hl.2.2 (hrw i hi).1, hcell (by omega) hl.2.2 (hrw i hi).2.1, hcell (by omega) hl.2.2 (hrw i hi).2.2⟩
 ·by_cases e : j = k
  ·subst e
   rw [if_pos rfl]
   obtain ⟨q1, q2, q3⟩ := hcw hne
   refine ⟨by omega, by simp [World.setCell]; omega, fun z => ?_⟩
   simp only [Value.ownBlock] at z
   injection z with z
   rcases hat with q | q
   ·exact q1 (by rw [q, z])
   ·omega
  ·rw [if_neg e]
   have hl := h.lt j (by omega) hne
   refine ⟨hl.1, by simp [World.setCell]; omega, fun z => ?_⟩
   simp only [Value.ownBlock] at z
   injection z with z
   rcases hat with q | q
   ·exact hl.2.2 (by rw [q, z])
   ·omega
 ·by_cases e : j = k
  ·subst e
   rw [if_pos rfl, if_neg (by omega)]
   obtain ⟨q1, q2, q3⟩ := hcw hjn
   have hl := h.lt i (by omega) hi
   omega
  ·rw [if_neg e, if_neg (by omega)]
   exact h.inc i j hij (by omega) hi hjn
theorem LcSt.done {w : World} {ss : List St} {g cap : Nat} {U : Nat → Value} {cb : Nat → Nat} {wr : World} (h : LcSt w ss ss.length (σ (some ⟨g, 0, none⟩) ss.length cap) U cb wr) (h0 : 0 < ss.length) (v : Value) : HSp (wr.setCell ⟨w.heap.size + 1, 0, none⟩ v) w.heap.size g cb ss := by
 have hgl := zi15 h.own h0
 have hblk : ∀ b, b ≠ w.heap.size + 1 → (wr.setCell ⟨w.heap.size + 1, 0, none⟩ v).heap[b]? = wr.heap[b]? := fun b hb => Below.heap_setCell _ _ _ _ hb
 have hcell : ∀ {b o x}, b ≠ w.heap.size + 1 → wr.cell? ⟨b, o, none⟩ = some x → (wr.setCell ⟨w.heap.size + 1, 0, none⟩ v).cell? ⟨b, o, none⟩ = some x := fun {b o x} hb hc => (World.cell?_of_block (w := wr) (a := ⟨b, o, none⟩) (hblk b hb)).trans hc
 refine ⟨fun j hj => ?_, fun j hj => ?_, fun j hj hne => ?_, fun j hj hne o => ?_, by omega, fun j hj hne => ?_, fun i j hij hj hi hjn => by have := h.inc i j hij hj hi hjn; omega⟩
 ·exact hcell (by omega) ((h.own.cellAt _ (by omega)).trans (zz4 U ss ss.length j hj).1)
 ·obtain ⟨sa, cap, h1, h2⟩ := h.us j hj
  exact ⟨sa, cap, hcell (by omega) (((h.own.cellAt _ (by omega)).trans (zz4 U ss ss.length j hj).2).trans (by rw [h1])), h2⟩
 ·have hl := h.lt j hj hne
  have hrw := h.row j hj hne
  exact fun i hi => ⟨hcell (by omega) (hrw i hi).1, hcell (by omega) (hrw i hi).2.1, hcell (by omega) (hrw i hi).2.2⟩
 ·rw [World.frozen?_setCell]; exact h.fzr j hj hne o
 ·have hl := h.lt j hj hne
  exact ⟨fun e => hl.2.2 (by rw [e]; rfl), by omega⟩
theorem zg17 {w : World} {vv : Value} {ss : List St} (h : SV w vv ss) (hl : SL ss 1048576) (h0s : 0 < ss.length) :
  Calls Tryz.prog 72 #[γ #[vv]] w fun e w' => ∃ g cap cb, e = .returned (γ #[σ (some ⟨g, 0, none⟩) ss.length cap]) ∧ HSp w' w.heap.size g cb ss ∧ Bel w w' := by
 obtain ⟨i0, hi0, hz0, hz1, hz2⟩ := info_parts zw13
 obtain ⟨i6, hi6, hx0, hx1, hx2⟩ := info_parts zx4
 obtain ⟨sa, cap, rfl, hx⟩ := h
 have hl1 := hl.1
 obtain ⟨b, off, rfl, hsr⟩ : ∃ b off, sa = some ⟨b, off, none⟩ ∧ SRow w b off ss := by
  rcases hx with h0 | h0
  ·rw [h0] at h0s; simp at h0s
  ·exact h0
 have x1 : Ext w (((w.alloc (χ #[σ (some ⟨b, off, none⟩) ss.length cap] 34)).alloc (χ #[σ none 0 0] 34)).alloc (χ #[σ none 0 0] 34)) := (((Ext.refl w).alloc _ _).alloc _ _).alloc _ _
 have xa : Ext (w.alloc (χ #[σ (some ⟨b, off, none⟩) ss.length cap] 34)) (((w.alloc (χ #[σ (some ⟨b, off, none⟩) ss.length cap] 34)).alloc (χ #[σ none 0 0] 34)).alloc (χ #[σ none 0 0] 34)) := ((Ext.refl _).alloc _ _).alloc _ _
 have xb : Ext ((w.alloc (χ #[σ (some ⟨b, off, none⟩) ss.length cap] 34)).alloc (χ #[σ none 0 0] 34)) (((w.alloc (χ #[σ (some ⟨b, off, none⟩) ss.length cap] 34)).alloc (χ #[σ none 0 0] 34)).alloc (χ #[σ none 0 0] 34)) := (Ext.refl _).alloc _ _
 have KH := hide (xa.box (zd w #[σ (some ⟨b, off, none⟩) ss.length cap] 34 w.heap.size rfl 0))
 have S0 : Hid (LcSt w ss 0 (σ none 0 0) (fun _ => σ none 0 0) (fun _ => 0) (((w.alloc (χ #[σ (some ⟨b, off, none⟩) ss.length cap] 34)).alloc (χ #[σ none 0 0] 34)).alloc (χ #[σ none 0 0] 34))) :=
  ⟨x1.bl, zd ((w.alloc (χ #[σ (some ⟨b, off, none⟩) ss.length cap] 34)).alloc (χ #[σ none 0 0] 34)) #[σ none 0 0] 34 (w.heap.size + 2) (by simp) 0, ⟨rfl, Or.inl ⟨rfl, rfl⟩⟩, xb.box (zd (w.alloc (χ #[σ (some ⟨b, off, none⟩) ss.length cap] 34)) #[σ none 0 0] 34 (w.heap.size + 1) (by simp) 0), x1.unfrozen (by omega) 0, x1.unfrozen (by omega) 0, fun j hj => by omega, fun j hj => by omega, fun j hj => by omega, fun j hj => by omega, fun i j _ hj => by omega⟩
 have HSR := hide hsr
 have HL := hide hl
 clear hx hsr hl x1 xa xb
 go_enter Tryz.func72, Tryz.ntmps72
 go_wp2_with fail
 generalize (((w.alloc (χ #[σ (some ⟨b, off, none⟩) ss.length cap] 34)).alloc (χ #[σ none 0 0] 34)).alloc (χ #[σ none 0 0] 34)) = W0 at S0 KH ⊢
 go_loopw [4] (fun i wr => ∃ (k : Nat) (rv : Value) (U : Nat → Value) (cb : Nat → Nat), i = O ι k ∧ k ≤ ss.length ∧ LcSt w ss k rv U cb wr ∧ wr.cell? ⟨w.heap.size, 0, none⟩ = some (σ (some ⟨b, off, none⟩) ss.length cap)) (fun i _ => ss.length - (intOf i).toNat)
 case atStart => exact ⟨0, _, _, _, rfl, by omega, S0.out, KH.out⟩
 case round =>
  obtain ⟨k, rv, U, cb, rfl, hk, hC, kh⟩ := hrel
  obtain ⟨wo, rfl⟩ : ∃ wo, wo = wr := ⟨_, rfl⟩
  have HC := hide hC
  have KH2 := hide kh
  clear S0 KH hC
  by_cases hlt : k < ss.length
  ·obtain ⟨q0, u, q1, q2⟩ := (HSR.out.keep HC.out.bl) k hlt
   have hcl := HL.out.at k hlt
   have hk0 : (0 : Int) ≤ (k : Int) := Int.natCast_nonneg _
   have hk1 : (k : Int) < (ss.length : Int) := by omega
   have hsw := zj HC.out.b0
   have hh0 := zj kh
   have hbw : b < w.heap.size := zj (HSR.out k hlt).1
   generalize hD : (ss.getD k s0).1 = D at q0
   generalize hcs : (ss.getD k s0).2 = cs at q2 hcl
   have HD := hide hD
   have Hcs := hide hcs
   obtain ⟨su, cu, rfl, hcv⟩ := q2
   have HCV := hide hcv
   clear hD hcs hcv
   have x5 : Ext wo (wo.alloc (χ #[O ι D, σ none 0 0] 123)) := (Ext.refl wo).alloc _ _
   have nb := fun j => zd wo #[O ι D, σ none 0 0] 123 wo.heap.size rfl j
   have NB0 := hide (nb 0)
   have NB1 := hide (nb 1)
   have NF : Hid (∀ o, (wo.alloc (χ #[O ι D, σ none 0 0] 123)).frozen? ⟨wo.heap.size, o, none⟩ = false) := fun o => x5.unfrozen (Nat.le_refl _) o
   have X5 := hide x5.bl
   have Q1 := hide q1
   clear x5 nb
   go_wp2_with fail
   go_loopw [6] (fun i wv => ∃ (j : Nat) (v : Value), i = O ι j ∧ j ≤ cs.length ∧ Bel wo wv ∧ wv.cell? ⟨wo.heap.size, 0, none⟩ = some (O ι D) ∧ wv.cell? ⟨wo.heap.size, 1, none⟩ = some v ∧ (∀ o, wv.frozen? ⟨wo.heap.size, o, none⟩ = false) ∧ wv.ownsRow (wo.heap.size + 1) 66 3 v j (flat (cs.take j))) (fun i _ => cs.length - (intOf i).toNat)
   case atStart => exact ⟨0, _, rfl, by omega, X5.out, NB0.out, NB1.out, NF.out, ⟨rfl, Or.inl ⟨rfl, rfl⟩⟩⟩
   case round =>
    obtain ⟨j, v, rfl, hj, hBv, hv0, hv1, hvf, hvo⟩ := hrel
    have HBV := hide hBv
    have HVO := hide hvo
    have HVF := hide hvf
    have r0 := Bel.box hBv kh
    have r1 := Bel.box hBv Q1.out
    by_cases hjl : j < cs.length
    ·obtain ⟨bc, oc, rfl, hcr⟩ := HCV.out.resolve_left (fun e => by rw [e] at hjl; simp at hjl)
     obtain ⟨t0, t1, t2⟩ := (hcr.keep hBv) j hjl
     have hj0 : (0 : Int) ≤ (j : Int) := Int.natCast_nonneg _
     have hj1 : (j : Int) < (cs.length : Int) := by omega
     have HTK : Hid (flat (cs.take (j + 1)) = flat (cs.take j) ++ c3v (cs.getD j k0)) := by
      show _ = _
      rw [List.take_add_one, List.getElem?_eq_getElem hjl, List.getD_eq_getElem?_getD, List.getElem?_eq_getElem hjl]
      exact ze6 _ _
     have hbcw : bc < wo.heap.size := zj (hcr j hjl).1
     generalize cs.getD j k0 = cx at t0 t1 t2 HTK
     obtain ⟨X, Y, Z⟩ := cx
     simp only at t0 t1 t2
     have SA : Hid ((fun w' : World => w'.cell? ⟨wo.heap.size, 1, none⟩ = some v ∧ w'.cell? ⟨w.heap.size, 0, none⟩ = some (σ (some ⟨b, off, none⟩) ss.length cap) ∧ w'.cell? ⟨b, off + k * 2 + 1, none⟩ = some (σ (some ⟨bc, oc, none⟩) cs.length cu) ∧ w'.cell? ⟨bc, oc + j * 3, none⟩ = some (O ι X) ∧ w'.cell? ⟨bc, oc + j * 3 + 1, none⟩ = some (.float .f64 Y) ∧ w'.cell? ⟨bc, oc + j * 3 + 2, none⟩ = some (.float .f64 Z)) wr.drew) := ⟨hv1, r0, r1, t0, t1, t2⟩
     have hws := HBV.out.size
     have hsv := zj hv1
     have hd : decide ((j : Int) < (cs.length : Int)) = true := decide_eq_true (by omega)
     have hov : Hid (∀ c, v.ownBlock = some c → wo.heap.size + 1 ≤ c ∧ c < wr.heap.size) := fun c hc => HVO.out.lt c hc
     have HNW : Hid (∀ q u, (c3v (X, Y, Z))[q]? = some u → (wr.alloc (χ #[O ι X, .float .f64 Y, .float .f64 Z] 66)).cell? ((⟨wr.heap.size, 0, none⟩ : Addr).add q) = some u) := fun q u hq => by
      rw [Addr.add_lit, Nat.zero_add, zd wr _ 66 _ rfl q]
      simpa [c3v] using hq
     have hvf1 := hvf 1
     have HV0 := hide hv0
     clear hBv hvo hvf hcr t0 t1 t2 hv0
     go_wp2_with fail
     refine zs2 (S := (fun w' : World => w'.cell? ⟨wo.heap.size, 1, none⟩ = some v ∧ w'.cell? ⟨w.heap.size, 0, none⟩ = some (σ (some ⟨b, off, none⟩) ss.length cap) ∧ w'.cell? ⟨b, off + k * 2 + 1, none⟩ = some (σ (some ⟨bc, oc, none⟩) cs.length cu) ∧ w'.cell? ⟨bc, oc + j * 3, none⟩ = some (O ι X) ∧ w'.cell? ⟨bc, oc + j * 3 + 1, none⟩ = some (.float .f64 Y) ∧ w'.cell? ⟨bc, oc + j * 3 + 2, none⟩ = some (.float .f64 Z))) (late := [14]) (by kernel_rfl) ?_
     refine zi (i := 0) (v := π (some ⟨wo.heap.size, 1, none⟩)) rfl (by kernel_rfl) (by kernel_rfl) (fun _ _ _ h => by cases h.1) _ (by kernel_rfl) (by kernel_rfl) (Or.inl ⟨by rfl, ?_⟩) SA.out ?_
     ·rintro w' ⟨z0, z1, z2, z3, z4, z5⟩
      go_simp
     simp only [aP, sT, sZ, sS]
     refine zi (i := 1) (v := v) rfl (by kernel_rfl) (by kernel_rfl) (fun _ _ _ h => by cases h.1) _ (by kernel_rfl) (by kernel_rfl) (Or.inl ⟨by rfl, ?_⟩) SA.out ?_
     ·rintro w' ⟨z0, z1, z2, z3, z4, z5⟩
      go_simp
     simp only [aP, sT, sZ, sS]
     refine zi (i := 2) (v := π (some ⟨w.heap.size, 0, none⟩)) rfl (by kernel_rfl) (by kernel_rfl) (fun _ _ _ h => by cases h.1) _ (by kernel_rfl) (by kernel_rfl) (Or.inl ⟨by rfl, ?_⟩) SA.out ?_
     ·rintro w' ⟨z0, z1, z2, z3, z4, z5⟩
      go_simp
     simp only [aP, sT, sZ, sS]
     refine zi (i := 3) (v := σ (some ⟨b, off, none⟩) ss.length cap) rfl (by kernel_rfl) (by kernel_rfl) (fun _ _ _ h => by cases h.1) _ (by kernel_rfl) (by kernel_rfl) (Or.inl ⟨by rfl, ?_⟩) SA.out ?_
     ·rintro w' ⟨z0, z1, z2, z3, z4, z5⟩
      go_simp
     simp only [aP, sT, sZ, sS]
     refine zi (i := 4) (v := O ι k) rfl (by kernel_rfl) (by kernel_rfl) (fun _ _ _ h => by cases h.1) _ (by kernel_rfl) (by kernel_rfl) (Or.inl ⟨by rfl, ?_⟩) SA.out ?_
     ·rintro w' ⟨z0, z1, z2, z3, z4, z5⟩
      go_simp
     simp only [aP, sT, sZ, sS]
     refine zi (i := 5) (v := π (some ⟨b, off + k * 2, none⟩)) rfl (by kernel_rfl) (by kernel_rfl) (fun _ _ _ h => by cases h.1) _ (by kernel_rfl) (by kernel_rfl) (Or.inl ⟨by rfl, ?_⟩) SA.out ?_
     ·rintro w' ⟨z0, z1, z2, z3, z4, z5⟩
      go_simp
     simp only [aP, sT, sZ, sS]
     refine zi (i := 6) (v := π (some ⟨b, off + k * 2 + 1, none⟩)) rfl (by kernel_rfl) (by kernel_rfl) (fun _ _ _ h => by cases h.1) _ (by kernel_rfl) (by kernel_rfl) (Or.inl ⟨by rfl, ?_⟩) SA.out ?_
     ·rintro w' ⟨z0, z1, z2, z3, z4, z5⟩
      go_simp
     simp only [aP, sT, sZ, sS]
     refine zi (i := 7) (v := σ (some ⟨bc, oc, none⟩) cs.length cu) rfl (by kernel_rfl) (by kernel_rfl) (fun _ _ _ h => by cases h.1) _ (by kernel_rfl) (by kernel_rfl) (Or.inl ⟨by rfl, ?_⟩) SA.out ?_
     ·rintro w' ⟨z0, z1, z2, z3, z4, z5⟩
      go_simp
     simp only [aP, sT, sZ, sS]
     refine zi (i := 8) (v := O ι j) rfl (by kernel_rfl) (by kernel_rfl) (fun _ _ _ h => by cases h.1) _ (by kernel_rfl) (by kernel_rfl) (Or.inl ⟨by rfl, ?_⟩) SA.out ?_
     ·rintro w' ⟨z0, z1, z2, z3, z4, z5⟩
      go_simp
     simp only [aP, sT, sZ, sS]
     refine zi (i := 9) (v := π (some ⟨bc, oc + j * 3, none⟩)) rfl (by kernel_rfl) (by kernel_rfl) (fun _ _ _ h => by cases h.1) _ (by kernel_rfl) (by kernel_rfl) (Or.inl ⟨by rfl, ?_⟩) SA.out ?_
     ·rintro w' ⟨z0, z1, z2, z3, z4, z5⟩
      go_simp
     simp only [aP, sT, sZ, sS]
     refine zi (i := 10) (v := γ #[O ι X, .float .f64 Y, .float .f64 Z]) rfl (by kernel_rfl) (by kernel_rfl) (fun _ _ _ h => by cases h.1) _ (by kernel_rfl) (by kernel_rfl) (Or.inl ⟨by rfl, ?_⟩) SA.out ?_
     ·rintro w' ⟨z0, z1, z2, z3, z4, z5⟩
      go_simp
     simp only [aP, sT, sZ, sS]
     have xal : Ext wr (wr.alloc (χ #[O ι X, .float .f64 Y, .float .f64 Z] 66)).drew := ((Ext.refl wr).alloc _ _).drew
     have SB : Hid ((fun w' : World => w'.cell? ⟨wo.heap.size, 1, none⟩ = some v ∧ w'.cell? ⟨w.heap.size, 0, none⟩ = some (σ (some ⟨b, off, none⟩) ss.length cap) ∧ w'.cell? ⟨b, off + k * 2 + 1, none⟩ = some (σ (some ⟨bc, oc, none⟩) cs.length cu) ∧ w'.cell? ⟨bc, oc + j * 3, none⟩ = some (O ι X) ∧ w'.cell? ⟨bc, oc + j * 3 + 1, none⟩ = some (.float .f64 Y) ∧ w'.cell? ⟨bc, oc + j * 3 + 2, none⟩ = some (.float .f64 Z)) (wr.alloc (χ #[O ι X, .float .f64 Y, .float .f64 Z] 66)).drew) := ⟨xal.box SA.out.1, xal.box SA.out.2.1, xal.box SA.out.2.2.1, xal.box SA.out.2.2.2.1, xal.box SA.out.2.2.2.2.1, xal.box SA.out.2.2.2.2.2⟩
     refine ze (i := 11) (by kernel_rfl) rfl (fun K hK => ?_)
     go_simp
     refine hK.out _ _ (fun _ => SB.out) ?_
     clear hK K
     try simp only [aP, sT, sZ, sS]
     refine ze (i := 12) (by kernel_rfl) rfl (fun K hK => ?_)
     refine step_append_lies _ (by rfl) (.tmp 34) (.tmp 44) 61 (by rfl) (wo.heap.size + 1) 66 i6 (γ #[O ι 0, .float .f64 0, .float .f64 0]) 3 24 Tryz.underlying61 hi6 hx0 hx1 hx2 rfl (by decide) v j (flat (cs.take j)) (by rfl) ((HVO.out.alloc _).drew) ⟨wr.heap.size, 0, none⟩ 1 1 (c3v (X, Y, Z)) (by rfl) (by rfl) HNW.out (zt7 _) (by omega) (by unfold maxLen; omega) (by omega) (by simp; omega) (wr.heap.size + 1) (by simp) ?_
     intro g5 cap5 w5 hown5 hgrow5 hat5 hlt5
     have hno : ∀ c, c < wo.heap.size + 1 → v.ownBlock ≠ some c := fun c hc e => by have := hov.out c e; omega
     have hk5 : ∀ c, c < wo.heap.size + 1 → w5.heap[c]? = wr.heap[c]? := fun c hc => (hgrow5.block c (by simp; omega) (fun e => hno c hc e.symm)).trans (xal.bl.block c (by omega))
     have ck : ∀ {c o x}, c < wo.heap.size + 1 → wr.cell? ⟨c, o, none⟩ = some x → w5.cell? ⟨c, o, none⟩ = some x := fun {c o x} hc hx => (World.cell?_of_block (w := wr) (a := ⟨c, o, none⟩) (hk5 c hc)).trans hx
     have S5 : Hid ((fun w' : World => w'.cell? ⟨wo.heap.size, 1, none⟩ = some v ∧ w'.cell? ⟨w.heap.size, 0, none⟩ = some (σ (some ⟨b, off, none⟩) ss.length cap) ∧ w'.cell? ⟨b, off + k * 2 + 1, none⟩ = some (σ (some ⟨bc, oc, none⟩) cs.length cu) ∧ w'.cell? ⟨bc, oc + j * 3, none⟩ = some (O ι X) ∧ w'.cell? ⟨bc, oc + j * 3 + 1, none⟩ = some (.float .f64 Y) ∧ w'.cell? ⟨bc, oc + j * 3 + 2, none⟩ = some (.float .f64 Z)) w5) := ⟨ck (by omega) SA.out.1, ck (by omega) SA.out.2.1, ck (by omega) SA.out.2.2.1, ck (by omega) SA.out.2.2.2.1, ck (by omega) SA.out.2.2.2.2.1, ck (by omega) SA.out.2.2.2.2.2⟩
     refine hK.out _ _ (fun _ => S5.out) ?_
     clear hK K
     try simp only [aP, sT, sZ, sS]
     have c5 : w5.cell? ⟨wo.heap.size, 1, none⟩ = some v := S5.out.1
     have f5 : ∀ o, w5.frozen? ⟨wo.heap.size, o, none⟩ = false := fun o => (World.frozen?_of_block (w := wr) (a := ⟨wo.heap.size, o, none⟩) (hk5 wo.heap.size (by omega))).trans (HVF.out o)
     have f51 := f5 1
     have hs5 : wr.heap.size + 1 ≤ w5.heap.size := by have := hgrow5.size; simpa using this
     have HEND : Hid (Bel wo (w5.setCell ⟨wo.heap.size, 1, none⟩ (σ (some ⟨g5, 0, none⟩) (j + 1) cap5)) ∧ (w5.setCell ⟨wo.heap.size, 1, none⟩ (σ (some ⟨g5, 0, none⟩) (j + 1) cap5)).cell? ⟨wo.heap.size, 0, none⟩ = some (O ι D) ∧ (w5.setCell ⟨wo.heap.size, 1, none⟩ (σ (some ⟨g5, 0, none⟩) (j + 1) cap5)).cell? ⟨wo.heap.size, 1, none⟩ = some (σ (some ⟨g5, 0, none⟩) (j + 1) cap5) ∧ (∀ o, (w5.setCell ⟨wo.heap.size, 1, none⟩ (σ (some ⟨g5, 0, none⟩) (j + 1) cap5)).frozen? ⟨wo.heap.size, o, none⟩ = false) ∧ (w5.setCell ⟨wo.heap.size, 1, none⟩ (σ (some ⟨g5, 0, none⟩) (j + 1) cap5)).ownsRow (wo.heap.size + 1) 66 3 (σ (some ⟨g5, 0, none⟩) (j + 1) cap5) (j + 1) (flat (cs.take (j + 1)))) := by
      refine ⟨⟨?_, ?_, ?_, ?_, fun c hc => ?_⟩, ?_, World.cell?_setCell_same _ _ _ c5, fun o => by rw [World.frozen?_setCell]; exact f5 o, ?_⟩
      ·exact hgrow5.os.trans HBV.out.os
      ·exact hgrow5.tape.trans HBV.out.tape
      ·exact hgrow5.output.trans HBV.out.output
      ·simp [World.setCell]; omega
      ·exact (Below.heap_setCell _ _ _ _ (by show c ≠ wo.heap.size; omega)).trans ((hk5 c (by omega)).trans (HBV.out.block c hc))
      ·rw [World.cell?_setCell_other _ _ _ _ (by intro e; simp only [Addr.mk.injEq] at e; omega)]
       exact ck (by omega) HV0.out
      ·rw [HTK.out]
       refine zq23 hown5 (fun e => ?_)
       have := zi15 hown5 (by omega)
       simp [Value.ownBlock] at e
       omega
     clear hown5 hgrow5 hat5 hlt5 f5 hk5 hno xal
     refine zi (i := 13) (v := π (some ⟨wo.heap.size, 1, none⟩)) rfl (by kernel_rfl) (by kernel_rfl) (fun _ _ _ h => by cases h.1) _ (by kernel_rfl) (by kernel_rfl) (Or.inl ⟨by rfl, ?_⟩) S5.out ?_
     ·rintro w' ⟨z0, z1, z2, z3, z4, z5⟩
      go_simp
     simp only [aP, sT, sZ, sS]
     refine ze (i := 14) (by kernel_rfl) rfl (fun K hK => ?_)
     go_simp
     refine hK.out _ _ (fun h => absurd h (by decide)) ?_
     clear hK K
     try simp only [aP, sT, sZ, sS]
     refine zg (by kernel_rfl) ?_ _
     refine ⟨rfl, ?_⟩
     clear SA SB S5
     go_wp2_with fail
     go_roundw
     ·exact ⟨j + 1, _, by go_num, by omega, HEND.out⟩
     ·simp [intOf]; omega
    ·have hjj : j = cs.length := by omega
     have hov := HVO.out
     rw [hjj, List.take_length] at hov
     have HOV := hide hov
     have hd : decide ((j : Int) < (cs.length : Int)) = false := decide_eq_false (by omega)
     have hsv := zj hv1
     have c3 := Bel.box hBv HC.out.b0
     have f3 := (Below.frozen hBv (p := ⟨w.heap.size + 2, 0, none⟩) hsw).trans HC.out.f2
     have HOW := hide (zk3 HC.out.own hBv)
     have hws := HBV.out.size
     clear hov HVO
     obtain ⟨sv, cv, hvE, hvC⟩ : ∃ sv cv, v = σ sv cs.length cv ∧ (cs = [] ∨ ∃ c, sv = some ⟨c, 0, none⟩ ∧ CRow wr c 0 cs ∧ wo.heap.size + 1 ≤ c ∧ ∀ o, wr.frozen? ⟨c, o, none⟩ = false) := by
      obtain ⟨sv, cv, e1, e2⟩ := zq4 (lo := wo.heap.size + 1) (Nat.le_refl _) HOV.out
      refine ⟨sv, cv, e1, e2.imp id fun ⟨c, q1, q2, q3, q4⟩ => ⟨c, q1, q3, q2, q4⟩⟩
     subst hvE
     have HVC := hide hvC
     clear hvC hvo hBv hvf
     have hnew : ∀ q x, ([O ι D, σ sv cs.length cv] : List Value)[q]? = some x → (wr.alloc (χ #[O ι D, σ sv cs.length cv] 123)).cell? ((⟨wr.heap.size, 0, none⟩ : Addr).add q) = some x := fun q x hq => by
      rw [Addr.add_lit, Nat.zero_add, zd wr _ 123 _ rfl q]
      simpa using hq
     have Hnew := hide hnew
     clear hnew
     go_wp2_with (at_builtin; (refine wpList_append_lies _ rfl _ _ 32 rfl (w.heap.size + 3) 123 i0 (γ #[O ι 0, σ none 0 0]) 2 32 Tryz.underlying32 hi0 hz0 hz1 hz2 rfl (by decide) rv k (flatS U ss k) rfl (HOW.out.alloc _) ⟨wr.heap.size, 0, none⟩ 1 1 [O ι D, σ sv cs.length cv] rfl rfl Hnew.out (by simp [Value.oneCell']) (by omega) (by unfold maxLen; omega) (by omega) (by simp; omega) (wr.heap.size + 1) (by simp) ?_); intro g9 c9 w9 hown9 hgrow9 hat9 hlt9; have hno9 : ∀ c, c < w.heap.size + 3 → rv.ownBlock ≠ some c := (fun c hc e => by have := HC.out.own.lt c e; omega); have hbk9 : ∀ c, c < w.heap.size + 3 → w9.heap[c]? = wr.heap[c]? := (fun c hc => (hgrow9.block c (by simp; omega) (fun e => hno9 c hc e.symm)).trans (((Below.refl wr.heap.size wr).alloc (Nat.le_refl _) _).block c (by omega))); have c39 : w9.cell? ⟨w.heap.size + 1 + 1, 0, none⟩ = some rv := (World.cell?_of_block (w := wr) (a := ⟨w.heap.size + 2, 0, none⟩) (hbk9 (w.heap.size + 2) (by omega))).trans c3; have f39 : w9.frozen? ⟨w.heap.size + 1 + 1, 0, none⟩ = false := (World.frozen?_of_block (w := wr) (a := ⟨w.heap.size + 2, 0, none⟩) (hbk9 (w.heap.size + 2) (by omega))).trans f3; have k39 : w9.cell? ⟨w.heap.size, 0, none⟩ = some (σ (some ⟨b, off, none⟩) ss.length cap) := (World.cell?_of_block (w := wr) (a := ⟨w.heap.size, 0, none⟩) (hbk9 w.heap.size (by omega))).trans r0; have HO9 := hide hown9; have HG9 := hide hgrow9; have HA9 := hide hat9; have HK39 := hide k39; clear hown9 hgrow9 hat9 hlt9 hno9 hbk9 k39)
     have HST := hide (HC.out.step HBV.out (σ sv cs.length cv) (match sv with | some a => a.block | none => 0) g9 c9 ⟨sv, cv, by rw [Hcs.out], by
       rw [Hcs.out]
       rcases HVC.out with h | ⟨c, rfl, _⟩
       ·exact Or.inl h
       ·exact Or.inr rfl⟩ (fun hne => by
       rw [Hcs.out] at hne ⊢
       obtain ⟨c, rfl, q1, q2, q3⟩ := HVC.out.resolve_left hne
       exact ⟨q1, by show wo.heap.size ≤ c; omega, q3⟩) (by rw [HD.out]; exact HO9.out) HG9.out HA9.out)
     refine ⟨⟨k + 1, _, _, _, by go_num, by omega, HST.out, ?_⟩, ?_⟩
     ·rw [World.cell?_setCell_other _ _ _ _ (by intro e; simp only [Addr.mk.injEq] at e; omega)]
      exact HK39.out
     ·simp [intOf]; omega
  ·have hkk : k = ss.length := by omega
   subst hkk
   have c1 := HC.out.rs0
   have f1 := HC.out.f1
   have c3 := HC.out.b0
   obtain ⟨g, cg, rfl, _⟩ := zq18 HC.out.own h0s
   go_wp2
   refine bodyPost_ret (v := γ #[σ (some ⟨g, 0, none⟩) ss.length cg]) (by simp [results, Tryz.results72, go_sem, c1]) rfl ⟨g, cg, cb, rfl, HC.out.done h0s _, HC.out.bl.setCell (p := ⟨w.heap.size + 1, 0, none⟩) (by show _ ≤ w.heap.size + 1; omega) _⟩
end
section
open Go.ChangeShapes Go.RowKit Go.Shelf
attribute [local go_sem] Oper.semAt_some
theorem zc23 : Tryz.zeroCells168 = Array.replicate 4096 (.bool false) := by kernel_rfl
theorem zp12 (j : Nat) (hj : j < 4096) : Tryz.zeroCells168[j]? = some (.bool false) := by
 rw [zc23, Array.getElem?_replicate, if_pos hj]
structure Mk (W : World) (Bs : Nat) (L : List Int) : Prop where
 at_ : ∀ j : Nat, j < 4096 → W.cell? ⟨Bs, j, none⟩ = some (.bool (decide ((j : Int) ∈ L)))
 fz : ∀ j : Nat, j < 4096 → W.frozen? ⟨Bs, j, none⟩ = false
theorem Mk.kept {W W' : World} {Bs : Nat} {L : List Int} {row : Option Nat} (h : Mk W Bs L) (hg : W.grownBy W' row) (hr : ∀ r, row = some r → ∃ o : Obj, W.heap[r]? = some o ∧ o.isCells = false) : Mk W' Bs L :=
 ⟨fun j hj => cell_kept (h.at_ j hj) hg hr, fun j hj => (frozen_kept (h.at_ j hj) hg hr).trans (h.fz j hj)⟩
theorem Mk.mark {W : World} {Bs : Nat} {L : List Int} (h : Mk W Bs L) (k : Nat) (hk : k < 4096) : Mk (W.setCell ⟨Bs, k, none⟩ (.bool true)) Bs (L ++ [(k : Int)]) := by
 refine ⟨fun j hj => ?_, fun j hj => (World.frozen?_setCell _ _ _ _).trans (h.fz j hj)⟩
 by_cases e : j = k
 ·subst e
  rw [World.cell?_setCell_same' _ _ _ (by rw [h.at_ j hj]; rfl)]
  simp
 ·rw [show (W.setCell ⟨Bs, k, none⟩ (.bool true)).cell? ⟨Bs, j, none⟩ = W.cell? ⟨Bs, j, none⟩ from World.cell?_setCell_other _ _ _ _ (fun q => e (by cases q; rfl)), h.at_ j hj]
  have : ((j : Int) ∈ L ++ [(k : Int)]) ↔ ((j : Int) ∈ L) := by
   simp only [List.mem_append, List.mem_singleton]
   exact ⟨fun q => q.elim id (fun q => absurd (by omega) e), Or.inl⟩
  simp only [this]
structure DSt (w W0 : World) : Prop where
 size : W0.heap.size = w.heap.size + 4
 res : W0.cell? ⟨w.heap.size + 1, 0, none⟩ = some (.bool false)
 resF : W0.frozen? ⟨w.heap.size + 1, 0, none⟩ = false
 mrk : Mk W0 (w.heap.size + 1 + 1) []
 bl : Below w.heap.size w W0
theorem DSt.start (w : World) (V : Array Value) : DSt w ((((w.alloc (.cells V 83)).alloc (χ #[.bool false] 4)).alloc (.cells Tryz.zeroCells168 168)).alloc (.cells V 83)) := by
 have hb1 : Below w.heap.size w (w.alloc (.cells V 83)) := (Below.refl _ w).alloc (Nat.le_refl _) _
 have hb2 : Below w.heap.size w ((w.alloc (.cells V 83)).alloc (χ #[.bool false] 4)) := hb1.alloc (by simp) _
 have hb3 : Below w.heap.size w (((w.alloc (.cells V 83)).alloc (χ #[.bool false] 4)).alloc (.cells Tryz.zeroCells168 168)) := hb2.alloc (by simp; omega) _
 have c1 : ((w.alloc (.cells V 83)).alloc (χ #[.bool false] 4)).cell? ⟨w.heap.size + 1, 0, none⟩ = some (.bool false) := zd _ _ 4 _ (by simp) 0
 have f1 : ((w.alloc (.cells V 83)).alloc (χ #[.bool false] 4)).frozen? ⟨w.heap.size + 1, 0, none⟩ = false := zn7 _ _ 4 _ 0 (by simp)
 have c2 : ∀ j, j < 4096 → (((w.alloc (.cells V 83)).alloc (χ #[.bool false] 4)).alloc (.cells Tryz.zeroCells168 168)).cell? ⟨w.heap.size + 1 + 1, j, none⟩ = some (.bool false) := fun j hj => (zd _ _ 168 _ (by simp) j).trans (zp12 j hj)
 have f2 : ∀ j, j < 4096 → (((w.alloc (.cells V 83)).alloc (χ #[.bool false] 4)).alloc (.cells Tryz.zeroCells168 168)).frozen? ⟨w.heap.size + 1 + 1, j, none⟩ = false := fun j _ => zn7 _ _ 168 _ j (by simp)
 exact ⟨by simp, zs7 _ (zs7 _ c1), zo7 _ (zs7 _ c1) (zo7 _ c1 f1), ⟨fun j hj => by rw [zs7 _ (c2 j hj)]; simp, fun j hj => zo7 _ (c2 j hj) (f2 j hj)⟩, hb3.alloc (by simp; omega) _⟩
theorem ze20 (n : Nat) (hn : 3 ≤ n) (xs ss : List Int) (off : Int) (w : World) (h4 : xs.length ≤ 4) (hl : ss.length = xs.length) (hr : InR xs xs.length) (hp : prod xs ≤ 4096) (hss : InS ss ss.length) (ho : 0 ≤ off ∧ off ≤ 4096) (hPr : ∀ x ∈ offsL xs ss off, 0 ≤ x ∧ x < 4096) :
  CallsIn Fence.wide n Tryz.prog 79 #[γ (vw xs ss off)] w fun e w' => e = .returned (.bool (decide (offsL xs ss off).Nodup)) ∧ Below w.heap.size w w' := by
 have hpl := hide (fun n W => zi5 n xs ss off W)
 have hst := hide (zo23 (n - 1) (w.heap.size + 1 + 1 + 1) xs ss off h4 hl hr hp hss ho hPr (((w.alloc (χ (vw xs ss off) 83)).alloc (χ #[.bool false] 4)).alloc (.cells Tryz.zeroCells168 168)) (by simp))
 have hdd : ∀ k : Nat, (Fence.wide.depth.isSome = true → 1 ≤ k) := fun k h => by cases h
 have X0 := hide (DSt.start w (vw xs ss off))
 clear hPr hss hp hr ho hl h4
 generalize offsL xs ss off = OL at *
 unfold vw at hpl X0 hst ⊢
 generalize xs.getD 0 0 = a0 at *
 generalize xs.getD 1 0 = a1 at *
 generalize xs.getD 2 0 = a2 at *
 generalize xs.getD 3 0 = a3 at *
 generalize ss.getD 0 0 = s0 at *
 generalize ss.getD 1 0 = s1 at *
 generalize ss.getD 2 0 = s2 at *
 generalize ss.getD 3 0 = s3 at *
 refine callsIn_of_wp_marks Tryz.func79 rfl trivial ?_ rfl
 simp only [Tryz.ntmps79, List.size_toArray, List.length_cons, List.length_nil, Nat.reduceAdd, Nat.reduceSub, Array.replicate_succ, Array.replicate_zero, List.push_toArray, List.append_toArray, List.nil_append, List.cons_append]
 gi_wp2
 refine ⟨trivial, hdd _, ?_⟩
 refine (hpl.out _ _).mono ?_
 rintro e w' ⟨rfl, rfl⟩
 clear hpl
 have h1 : 1 ≤ n := by omega
 gi_wp2
 generalize hW0 : World.alloc (((w.alloc _).alloc _).alloc _) _ = W0 at X0 hst ⊢
 clear hW0
 have hsz := X0.out.size
 refine wpIn_rangeFunc_ownF rfl h1 (gf := 119) (lb := #[π (some ⟨w.heap.size + 1 + 1 + 1, 0, none⟩)]) rfl trivial (enters_of Tryz.func119 (by kernel_rfl) rfl)
  hst.out (fun h k => KC.trans h k) (fun W l o o' h1 h2 h3 h4 => zo19 W l o o' h1 h2 h3 h4) (Below.refl _ _) (fun _ => rfl)
  (fun pre W => ((plv pre).Nodup ∧ W.cell? ⟨w.heap.size + 1, 0, none⟩ = some (.bool false) ∧ W.frozen? ⟨w.heap.size + 1, 0, none⟩ = false ∧ Mk W (w.heap.size + 1 + 1) (plv pre)) ∧ Below w.heap.size w W)
  (fun c pre W => (c = .ret ∧ ¬ (plv pre).Nodup ∧ W.cell? ⟨w.heap.size + 1, 0, none⟩ = some (.bool false)) ∧ Below w.heap.size w W)
  (OwnFrom.and (Own.from (fun s A B row hs hg hr => ⟨hs.1, cell_kept hs.2.1 hg hr, (frozen_kept hs.2.1 hg hr).trans hs.2.2.1, hs.2.2.2.kept hg hr⟩) _) (ownFrom_below (Nat.le_refl _) (by omega)))
  (fun c => OwnFrom.and (Own.from (fun s A B row hs hg hr => ⟨hs.1, hs.2.1, cell_kept hs.2.2 hg hr⟩) _) (ownFrom_below (Nat.le_refl _) (by omega)))
  ⟨⟨by simp [plv], X0.out.res, X0.out.resF, X0.out.mrk⟩, X0.out.bl⟩
  (fun x => { tmps := #[γ #[O ι xs.length, O ι a0, O ι a1, O ι a2, O ι a3, O ι s0, O ι s1, O ι s2, O ι s3, O ι off], π (some ⟨w.heap.size, 0, none⟩), π (some ⟨w.heap.size + 1, 0, none⟩), π (some ⟨w.heap.size + 1 + 1, 0, none⟩), O ι x.1, γ #[O ι xs.length, O ι a0, O ι a1, O ι a2, O ι a3, O ι s0, O ι s1, O ι s2, O ι s3, O ι off], .func (.func 119) #[] #[π (some ⟨w.heap.size + 1 + 1 + 1, 0, none⟩)], O ι x.1, undef, undef, undef, undef, undef], defers := [] }) ?assign ?body ?done ?stop
 case assign =>
  intro l x W K hK
  gi_wp2
  exact hK
 case body =>
  rintro l pre ⟨x, hx⟩ W ⟨⟨hnd, hcr, hfr, hmk⟩, hB⟩ _
  obtain ⟨k, rfl⟩ : ∃ k : Nat, x = k := ⟨x.toNat, by omega⟩
  have hk : k < 4096 := by omega
  have q0 := hmk.at_ k hk
  have q1 := hmk.fz k hk
  by_cases hin : (k : Int) ∈ plv pre
  ·rw [decide_eq_true hin] at q0
   gi_wp2
   exact ⟨KeepsOthers.setCell _ _ _, ⟨rfl, fun h => by
    rw [ze3] at h
    exact (List.nodup_append.1 h).2.2 _ hin _ (List.mem_singleton.2 rfl) rfl, World.cell?_setCell_same' _ _ _ (by rw [hcr]; rfl)⟩, hB.setCell (p := ⟨w.heap.size + 1, 0, none⟩) (by simp) _⟩
  ·rw [decide_eq_false hin] at q0
   gi_wp2
   refine ⟨KeepsOthers.setCell _ _ _, KC.setCell W (p := ⟨w.heap.size + 1 + 1, k, none⟩) (by show w.heap.size + 1 + 1 < _; omega) _, ⟨?_, ?_, ?_, ?_⟩, hB.setCell (p := ⟨w.heap.size + 1 + 1, k, none⟩) (by show _ ≤ w.heap.size + 1 + 1; omega) _⟩
   ·rw [ze3]
    refine List.nodup_append.2 ⟨hnd, by simp [plv], fun a ha b hb e => ?_⟩
    have : b = (k : Int) := by simpa [plv] using hb
    subst this
    subst e
    exact hin ha
   ·exact (World.cell?_of_block (Below.heap_setCell _ _ _ _ (by show w.heap.size + 1 ≠ w.heap.size + 1 + 1; omega))).trans hcr
   ·exact (World.frozen?_setCell _ _ _ _).trans hfr
   ·rw [ze3]; exact hmk.mark k hk
 case done =>
  rintro D ys W hD hS ⟨⟨hnd, hcr, hfr, hmk⟩, hB⟩ hK
  gi_wp2
  have hK' := (KeepsOthers.setCell W ⟨w.heap.size + 1, 0, none⟩ (.bool true)).same D _ hK rfl
  refine ⟨by simp, .inl ⟨_, _, rfl, run_takeDeferred hK', ?_⟩⟩
  have hc5 := cell_kept (World.cell?_setCell_same' W ⟨w.heap.size + 1, 0, none⟩ (.bool true) (by rw [hcr]; rfl)) (grownBy_putObj' _ D (.deferred none)) (fun r e => by cases e; exact ⟨_, hK', rfl⟩)
  refine ⟨.bool true, ?_, by rw [decide_eq_true (by rw [← hS]; exact hnd)], (hB.setCell (p := ⟨w.heap.size + 1, 0, none⟩) (by simp) _).trans (belowK_b (w := w) (Nat.le_refl _) _ D _ _ (by omega) hK' rfl rfl)⟩
  simp [results, Tryz.f79, go_sem, hc5]
 case stop =>
  rintro D c pre W hD hpre ⟨⟨rfl, hnd, hcr⟩, hB⟩ hK
  gi_wp2
  refine ⟨by simp, .inl ⟨_, _, rfl, run_takeDeferred hK, ?_⟩⟩
  have hc5 := cell_kept hcr (grownBy_putObj' _ D (.deferred none)) (fun r e => by cases e; exact ⟨_, hK, rfl⟩)
  refine ⟨.bool false, ?_, by rw [decide_eq_false (fun h => hnd (List.Sublist.nodup hpre.sublist h))], hB.trans (belowK_b (w := w) (Nat.le_refl _) W D _ _ (by omega) hK rfl rfl)⟩
  simp [results, Tryz.f79, go_sem, hc5]
end
section
open Go.ChangeShapes Go.RowKit
abbrev WrV (xs ss : List Int) (off : Int) : Prop := ValidV xs ss off ∧ (offsL xs ss off).Nodup
def dcWrV (xs ss : List Int) (off : Int) : Bool := decide (WrV xs ss off)
theorem dcWrV_t {xs ss : List Int} {off : Int} (h : WrV xs ss off) : dcWrV xs ss off = true := decide_eq_true h
theorem dcWrV_f {xs ss : List Int} {off : Int} (h : ¬ WrV xs ss off) : dcWrV xs ss off = false := decide_eq_false h
theorem zu17 {xs ss : List Int} {off : Int} (hv : ValidV xs ss off) (w : World) :
  Calls Tryz.prog 79 #[γ (vw xs ss off)] w fun e w' => e = .returned (.bool (decide (offsL xs ss off).Nodup)) ∧ Bel w w' :=
 callsIn_wide.1 (ze20 3 (Nat.le_refl _) xs ss off w hv.1.1 hv.2.1 hv.1.2.1 hv.1.2.2 hv.2.2.2.1 hv.2.2.1 (zq3 hv))
theorem zg27 : (Tryz.prog.info? 4).map (fun i => (i.zero, i.size, i.bytes)) = some (some (.bool false), 1, 1) := by kernel_rfl
theorem zz16 (W : World) : ∃ MC : Array Value, (∀ j, j < 4096 → MC[j]? = some (.bool false)) ∧ (Instr.makeSlice 124 (O ι 4096) (O ι 4096)).run Tryz.prog W = .ok (σ (some ⟨W.heap.size, 0, none⟩) 4096 4096) (W.alloc (.cells MC 4)) := by
 refine ⟨madeCells #[.bool false] 4096, fun j hj => ?_, run_make_row' (P := Tryz.prog) 124 4 (.bool false) 1 Tryz.underlying124 zg27 rfl .i64 .i64 4096 (by omega) (by omega) W⟩
 simp [madeCells, hj, Nat.mod_one]
structure MR (w wr : World) (Bm : Nat) (sa : Option Addr) (L : List Int) (k : Nat) : Prop where
 nd : (L.take k).Nodup
 mrk : Mk wr Bm (L.take k)
 own : OwnI wr (Bm + 1) sa L
 bl : Below w.heap.size w wr
theorem MR.step {w wr : World} {Bm : Nat} {sa : Option Addr} {L : List Int} {k m : Nat} (h : MR w wr Bm sa L k) (hk : k < L.length) (hm : L.getD k 0 = (m : Int)) (hm4 : m < 4096) (hn : ¬ ((m : Int) ∈ L.take k)) (hw : w.heap.size ≤ Bm) : MR w (wr.setCell ⟨Bm, m, none⟩ (.bool true)) Bm sa L (k + 1) := by
 have e := ze2 L k hk
 rw [hm] at e
 refine ⟨?_, ?_, ?_, h.bl.setCell (p := ⟨Bm, m, none⟩) hw _⟩
 ·rw [e]
  refine List.nodup_append.2 ⟨h.nd, by simp, fun a ha b hb q => ?_⟩
  have : b = (m : Int) := by simpa using hb
  subst this
  subst q
  exact hn ha
 ·rw [e]; exact h.mrk.mark m hm4
 ·rcases h.own with h0 | ⟨g, h1, h2, h3, h4⟩
  ·exact Or.inl h0
  ·refine Or.inr ⟨g, h1, h2, fun j hj => ?_, fun o => (World.frozen?_setCell _ _ _ _).trans (h4 o)⟩
   exact (World.cell?_of_block (Below.heap_setCell _ _ _ g (by show g ≠ Bm; omega))).trans (h3 j hj)
theorem zg18 {w : World} {vS vT : Value} {xs ss : List Int} (hS : Ints w vS xs) (hT : Ints w vT ss) (off : Int) (lx : xs.length ≤ 1048576) (ls : ss.length ≤ 1048576) :
  Calls Tryz.prog 28 #[γ #[vS, vT, O ι off]] w fun e w' => e = .returned (.bool (dcWrV xs ss off)) ∧ Bel w w' := by
 have x0 : Ext w (w.alloc (χ #[vS, vT, O ι off] 39)) := (Ext.refl w).alloc _ _
 have X0 := hide x0.bl
 have HS := hide (hS.ext x0)
 have HT := hide (hT.ext x0)
 have n1 := fun j => zd w #[vS, vT, O ι off] 39 w.heap.size rfl j
 have k0 := n1 0
 have k1 := n1 1
 have k2 := n1 2
 clear n1 x0
 obtain ⟨sa, cap, rfl, _⟩ := hS
 obtain ⟨ta, dap, rfl, _⟩ := hT
 go_enter Tryz.func28, Tryz.ntmps28
 go_wp2_with fail
 generalize hW0 : w.alloc (χ #[σ sa xs.length cap, σ ta ss.length dap, O ι off] 39) = W0 at X0 HS HT k0 k1 k2 ⊢
 clear hW0
 refine (zi18 HS.out HT.out off lx ls).mono ?_
 rintro e W1 ⟨rfl, B1⟩
 have X1 := hide (X0.out.trans (B1.mono X0.out.size))
 have HS1 := hide (HS.out.below B1)
 have HT1 := hide (HT.out.below B1)
 have d0 := Bel.box B1 k0
 have d1 := Bel.box B1 k1
 have d2 := Bel.box B1 k2
 clear k0 k1 k2 X0 B1 HS HT
 by_cases hv : ValidV xs ss off
 ·rw [dcValidV_t hv]
  have hin := hide (zq3 hv)
  have Hv := hide hv
  obtain ⟨MC, hMC, hmk⟩ := zz16 W1
  have M2 : Hid (Mk (W1.alloc (.cells MC 4)) W1.heap.size []) := ⟨fun j hj => (zd W1 MC 4 _ rfl j).trans ((hMC j hj).trans (by simp)), fun j _ => zn7 W1 MC 4 _ j rfl⟩
  have x2 : Ext W1 (W1.alloc (.cells MC 4)) := (Ext.refl W1).alloc _ _
  have hlen := zr4 hv
  have HP := hide (zi2 (HS1.out.ext x2) (HT1.out.ext x2) off hv)
  have X2 := hide (X1.out.trans (x2.bl.mono X1.out.size))
  have q0 := x2.box d0
  have q1 := x2.box d1
  have q2 := x2.box d2
  have hs2 : Hid ((W1.alloc (.cells MC 4)).heap.size = W1.heap.size + 1) := by show _ = _; simp
  have hw1 := hide (X1.out.size)
  have hWr : Hid ((dcWrV xs ss off) = decide (offsL xs ss off).Nodup) := by
   show _ = _
   by_cases h : (offsL xs ss off).Nodup
   ·rw [decide_eq_true h, dcWrV_t (show WrV xs ss off from ⟨hv, h⟩)]
   ·rw [decide_eq_false h, dcWrV_f (fun q : WrV xs ss off => h q.2)]
  clear hv hMC x2 HS1 HT1 X1 Hv
  generalize offsL xs ss off = L at *
  go_wp2_with fail
  generalize hW2 : W1.alloc (.cells MC 4) = W2 at *
  clear hW2
  refine HP.out.mono ?_
  clear HP
  rintro e W3 ⟨s3, c3, rfl, own3, B3⟩
  have S0 : Hid (MR w W3 W1.heap.size s3 L 0) := ⟨by simp, ⟨fun j hj => by rw [Bel.box B3 (M2.out.at_ j hj)]; simp, fun j hj => (Below.frozen B3 (zj (M2.out.at_ j hj))).trans (M2.out.fz j hj)⟩, by rw [← hs2.out]; exact own3, X2.out.trans (B3.mono X2.out.size)⟩
  clear hmk q0 q1 q2 d0 d1 d2 B3 own3 M2 X2 hs2
  generalize W1.heap.size = Bm at *
  go_wp2
  go_loopw [5] (fun i wr => ∃ k : Nat, i = O ι k ∧ k ≤ L.length ∧ MR w wr Bm s3 L k) (fun i _ => L.length - (intOf i).toNat)
  case atStart => exact ⟨0, rfl, by omega, S0.out⟩
  case round =>
   obtain ⟨k, rfl, hk, hM⟩ := hrel
   have HM := hide hM
   clear S0
   by_cases hlt : k < L.length
   ·rcases hM.own with h0 | ⟨g, rfl, hg, hrow, _⟩
    ·rw [h0] at hlt; simp at hlt
    have hmem : L.getD k 0 ∈ L := by
     rw [List.getD_eq_getElem?_getD, List.getElem?_eq_getElem hlt]; exact List.getElem_mem _
    have hr4 := hin.out _ hmem
    have r0 := hrow k hlt
    rw [Nat.zero_add] at r0
    obtain ⟨m, hm⟩ : ∃ m : Nat, L.getD k 0 = (m : Int) := ⟨(L.getD k 0).toNat, by omega⟩
    rw [hm] at r0 hr4
    have hm4 : m < 4096 := by omega
    have r1 := hM.mrk.at_ m hm4
    have r2 := hM.mrk.fz m hm4
    have hk0 : (0 : Int) ≤ (k : Int) := Int.natCast_nonneg _
    have hk1 : (k : Int) < (L.length : Int) := by omega
    have Hm := hide hm
    clear hrow hmem hM hm
    by_cases hin2 : (m : Int) ∈ L.take k
    ·have hno : Hid ((dcWrV xs ss off) = false) := hWr.out.trans (decide_eq_false (fun q => by
      have e := ze2 L k hlt
      rw [Hm.out] at e
      have q2 := List.Sublist.nodup (List.take_sublist (k + 1) L) q
      rw [e] at q2
      exact (List.nodup_append.1 q2).2.2 _ hin2 _ (List.mem_singleton.2 rfl) rfl))
     rw [decide_eq_true hin2] at r1
     clear hin2
     go_wp2
     go_ret
     exact ⟨zm hno.out.symm, HM.out.bl⟩
    ·have hst := hide (HM.out.step hlt Hm.out hm4 hin2 hw1.out)
     rw [decide_eq_false hin2] at r1
     clear hin2
     go_wp2
     go_roundw
     ·exact ⟨k + 1, by go_num, by omega, hst.out⟩
     ·simp [intOf]; omega
   ·have hkk : k = L.length := by omega
    have hyes : Hid ((dcWrV xs ss off) = true) := hWr.out.trans (decide_eq_true (by have := hM.nd; rw [hkk, List.take_length] at this; exact this))
    subst hkk
    clear hM
    go_wp2
    go_ret
    exact ⟨zm hyes.out.symm, HM.out.bl⟩
 ·have hno : Hid ((dcWrV xs ss off) = false) := decide_eq_false (fun q => hv q.1)
  rw [dcValidV_f hv]
  clear hv
  go_wp2
  go_ret
  exact ⟨zm hno.out.symm, X1.out⟩
end
section
open Go.RowKit Go.ChangeShapes
theorem zz3 {w : World} {v vS vT : Value} {ss : List St} (h : SV w v ss) (st off : Int) (h0 : 0 ≤ st) (h1 : st < ss.length) :
  Calls Tryz.prog 26 #[γ #[v], γ #[O ι st, vS, vT, O ι off]] w fun e w' => e = .returned (O ι (ss.getD st.toNat s0).1) ∧ Ext w w' := by
 obtain ⟨k, rfl⟩ : ∃ k : Nat, st = k := ⟨st.toNat, by omega⟩
 have hk : k < ss.length := by omega
 obtain ⟨sa, cap, rfl, h | ⟨b, o, rfl, hr⟩⟩ := h
 ·rw [h] at hk; simp at hk
 have q0 := (hr k hk).1
 rw [Int.toNat_natCast]
 generalize (ss.getD k s0).1 = d at q0 ⊢
 have x1 : Ext w (w.alloc (χ #[σ (some ⟨b, o, none⟩) ss.length cap] 34)) := (Ext.refl w).alloc _ _
 have x2 := x1.alloc #[O ι k, vS, vT, O ι off] 41
 have q1 := x2.box q0
 have X2 := hide x2
 clear x1 x2 hr
 go_enter Tryz.func26, Tryz.ntmps26
 go_wp2
 go_ret
 exact ⟨rfl, X2.out⟩
end
section
open Go.RowKit
theorem zo10 (a b : Int) (w : World) :
  Calls Tryz.prog 138 #[O ι a, O ι b] w fun e w' => e = .returned (O ι (promL a b)) ∧ w' = w := by
 go_enter Tryz.func138, Tryz.ntmps138
 go_wp2_with (go_at_call 103; refine (zn _ _).mono ?_; rintro e w' ⟨rfl, rfl⟩)
 all_goals go_ret
 all_goals refine ⟨zl1 ?_, rfl⟩
 all_goals go_light
 all_goals (simp only [isDtB, Bool.not_eq_true', Bool.not_eq_false', decide_eq_true_eq, decide_eq_false_iff_not, beq_iff_eq, beq_eq_false_iff_ne, ne_eq] at *; unfold promL; omega)
theorem zq11 (a b : Int) (w : World) :
  Calls Tryz.prog 117 #[O ι a, O ι b] w fun e w' => e = .returned (O ι (promL a b)) ∧ w' = w := by
 go_enter Tryz.func117, Tryz.ntmps117
 go_wp2_with (go_at_call 116; refine (zp1 _ _).mono ?_; rintro e w' ⟨rfl, rfl⟩)
 all_goals go_ret
 all_goals refine ⟨zl1 ?_, rfl⟩
 all_goals go_light
 all_goals (simp only [isDtB, Bool.not_eq_true', Bool.not_eq_false', decide_eq_true_eq, decide_eq_false_iff_not, beq_iff_eq, beq_eq_false_iff_ne, ne_eq] at *; unfold promL; omega)
theorem zo3 (f t r : Int) (w : World) :
  Calls Tryz.prog 108 #[O ι f, O ι t, O ι r] w fun e w' => e = .returned (.bool (castL f t r)) ∧ w' = w := by
 go_enter Tryz.func108, Tryz.ntmps108
 go_wp2_with (first | (go_at_call 103; refine (zn _ _).mono ?_; rintro e w' ⟨rfl, rfl⟩) | (go_at_call 138; refine (zo10 _ _ _).mono ?_; rintro e w' ⟨rfl, rfl⟩) | (go_at_call 109; refine (zv _ _).mono ?_; rintro e w' ⟨rfl, rfl⟩))
 all_goals go_ret
 all_goals refine ⟨zm ?_, rfl⟩
 all_goals go_light
 all_goals (rw [Bool.eq_iff_iff]; simp only [castL, isDtB, Bool.not_eq_true', Bool.not_eq_false', decide_eq_true_eq, decide_eq_false_iff_not, beq_iff_eq, beq_eq_false_iff_ne, ne_eq, Bool.or_eq_true, Bool.false_eq_true, false_iff, true_iff] at *; have e1 := zy5 f; have e2 := zy5 t; omega)
theorem zv2 (f t r : Int) (w : World) :
  Calls Tryz.prog 80 #[O ι f, O ι t, O ι r] w fun e w' => e = .returned (.bool (castL f t r)) ∧ w' = w := by
 go_enter Tryz.func80, Tryz.ntmps80
 go_wp2_with (first | (go_at_call 116; refine (zp1 _ _).mono ?_; rintro e w' ⟨rfl, rfl⟩) | (go_at_call 117; refine (zq11 _ _ _).mono ?_; rintro e w' ⟨rfl, rfl⟩) | (go_at_call 118; refine (zf1 _ _).mono ?_; rintro e w' ⟨rfl, rfl⟩))
 all_goals go_ret
 all_goals refine ⟨zm ?_, rfl⟩
 all_goals go_light
 all_goals (rw [Bool.eq_iff_iff]; simp only [castL, isDtB, Bool.not_eq_true', Bool.not_eq_false', decide_eq_true_eq, decide_eq_false_iff_not, beq_iff_eq, beq_eq_false_iff_ne, ne_eq, Bool.or_eq_true, Bool.false_eq_true, false_iff, true_iff] at *; have e1 := zy5 f; have e2 := zy5 t; omega)
end
end Go.Proofs.YtfhcpicddegblaaGreat
