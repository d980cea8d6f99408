import Derived.Test.YtjjemnlknnnkbaaSpecSC
import Derived.Maps.AppendAt
import Derived.Deep.AppendLies
import Derived.OneCell
namespace Go.Proofs.Ytjjemnlknnnkbaa
open Go.ChangeShapes Go.RowKit Go.MuLone
set_option linter.unusedSimpArgs false
set_option linter.unusedVariables false

theorem new_cell (W : World) (cs : Array Value) (t b : Nat) (hb : b = W.heap.size) (j : Nat) : (W.alloc (.cells cs t)).cell? ⟨b, j, none⟩ = cs[j]? := by
  subst hb
  rw [cell_of_row _ W.heap.size j _ t (0, 0) (heap_alloc_new W _)]
theorem cell_one_new (w : World) (x : Value) (t : TypeId) : ∀ j u, [x][j]? = some u → (w.alloc (.cells #[x] t)).cell? ((⟨w.heap.size, 0, none⟩ : Addr).add j) = some u := by
  intro j u hu
  have hj : j = 0 := by
    have := (List.getElem?_eq_some_iff.1 hu).1
    simpa using this
  subst hj
  simp at hu
  subst hu
  rw [Addr.add_lit, new_cell w _ t _ rfl]
  rfl
/-- A turn's cells. -/
def tv (t : TurnL) : List Value := [.int .i64 t.1, .int .i64 t.2.1, .bool t.2.2]
def tcells (ts : List TurnL) : List Value := ts.flatMap tv
theorem tcells_len : ∀ ts : List TurnL, (tcells ts).length = ts.length * 3
  | [] => rfl
  | t :: ts => by
    have := tcells_len ts
    simp only [tcells, List.flatMap_cons, List.length_append, List.length_cons] at this ⊢
    rw [this]
    simp [tv]; omega
theorem tcells_snoc (ts : List TurnL) (t : TurnL) : tcells (ts ++ [t]) = tcells ts ++ tv t := by simp [tcells]
def t0 : TurnL := (0, 0, false)
theorem tcells_at : ∀ (ts : List TurnL) (j i : Nat), j < ts.length → i < 3 → (tcells ts)[j * 3 + i]? = (tv (ts.getD j t0))[i]?
  | [], j, i, h, _ => by simp at h
  | t :: ts, 0, i, h, hi => by
    simp only [tcells, List.flatMap_cons, Nat.zero_mul, Nat.zero_add, List.getD_cons_zero]
    rw [List.getElem?_append_left (by simp [tv]; omega)]
  | t :: ts, j + 1, i, h, hi => by
    have ih := tcells_at ts j i (by simpa using h) hi
    simp only [tcells, List.flatMap_cons, List.getD_cons_succ] at ih ⊢
    rw [List.getElem?_append_right (by simp [tv]; omega), show (j + 1) * 3 + i - (tv t).length = j * 3 + i by simp [tv]; omega]
    exact ih
/-- The turns lie in block b from its first place on. -/
def TRow (w : World) (b : Nat) (ts : List TurnL) : Prop := ∀ j, j < ts.length → w.cell? ⟨b, j * 3, none⟩ = some (.int .i64 (ts.getD j t0).1) ∧ w.cell? ⟨b, j * 3 + 1, none⟩ = some (.int .i64 (ts.getD j t0).2.1) ∧ w.cell? ⟨b, j * 3 + 2, none⟩ = some (.bool (ts.getD j t0).2.2)
theorem TRow.keep {w w' : World} {b : Nat} {ts : List TurnL} (h : TRow w b ts) (x : Bel w w') : TRow w' b ts := fun j hj => ⟨x.box (h j hj).1, x.box (h j hj).2.1, x.box (h j hj).2.2⟩
def TOwn (w' : World) (lo hi : Nat) (sa : Option Addr) (ts : List TurnL) : Prop := ts = [] ∨ ∃ g, sa = some ⟨g, 0, none⟩ ∧ lo ≤ g ∧ g < hi ∧ TRow w' g ts ∧ ∀ o, w'.frozen? ⟨g, o, none⟩ = false
def TOk (w : World) (ts : List TurnL) (e : Ending) (w' : World) : Prop :=
  ∃ (sa : Option Addr) (cap : Nat), e = .returned (.slice sa ts.length cap) ∧ TOwn w' w.heap.size w'.heap.size sa ts ∧ Bel w w'
theorem towns_row {w : World} {base g n cap : Nat} {ts : List TurnL} (h : w.ownsRow base 68 3 (.slice (some ⟨g, 0, none⟩) n cap) n (tcells ts)) : TRow w g ts ∧ n = ts.length := by
  have hl : n = ts.length := by have := h.1; rw [tcells_len] at this; omega
  refine ⟨fun j hj => ?_, hl⟩
  have hb := fun (i : Nat) (hi : i < 3) => (h.cellAt (j * 3 + i) (by omega)).trans (tcells_at ts j i hj hi)
  exact ⟨hb 0 (by omega), hb 1 (by omega), hb 2 (by omega)⟩
theorem town_of {w w3 : World} {base n : Nat} {v : Value} {ts : List TurnL} (hb : w.heap.size ≤ base) (hB : Bel w w3) (h : w3.ownsRow base 68 3 v n (tcells ts)) : TOk w ts (.returned v) w3 := by
  have hl : n = ts.length := by have := h.1; rw [tcells_len] at this; omega
  rcases h.2 with ⟨h1, h2⟩ | ⟨g, cap, cur, h1, hg, _⟩
  · have : ts = [] := List.eq_nil_of_length_eq_zero (by omega)
    subst this
    exact ⟨none, 0, by rw [h1]; rfl, Or.inl rfl, hB⟩
  · subst h1
    obtain ⟨hr, _⟩ := towns_row h
    exact ⟨_, cap, by rw [hl], Or.inr ⟨g, rfl, by omega, (h.lt g rfl).2, hr, fun o => h.frozenAt o⟩, hB⟩
theorem row_of_own {w : World} {base g n cap : Nat} {L : List Int} (h : w.ownsRow base 2 1 (.slice (some ⟨g, 0, none⟩) n cap) n (L.map (Value.int .i64))) : Row w g 0 L ∧ n = L.length := by
  have hl : n = L.length := by have := h.1; simp at this; omega
  refine ⟨fun j hj => ?_, hl⟩
  rw [Nat.zero_add, h.cellAt j (by omega), List.getElem?_map, List.getElem?_eq_getElem hj, List.getD_eq_getElem?_getD, List.getElem?_eq_getElem hj]
  rfl
theorem own_form2 {W : World} {base e size n : Nat} {v : Value} {L : List Value} (h : W.ownsRow base e size v n L) : ∃ sa cap, v = .slice sa n cap := by
  rcases h.2 with ⟨h1, h2⟩ | ⟨g, cap, cur, h1, _⟩
  · exact ⟨none, 0, by rw [h1, h2]⟩
  · exact ⟨_, cap, h1⟩
theorem own_below {w w' : World} {base e size n B : Nat} {v : Value} {xs : List Value} (h : w.ownsRow base e size v n xs) (x : Below B w w') (hb : ∀ g, v.ownBlock = some g → g < B) : w'.ownsRow base e size v n xs := by
  refine ⟨h.1, ?_⟩
  rcases h.2 with h | ⟨g, cap, cur, rfl, h1, h2, h3⟩
  · exact Or.inl h
  · exact Or.inr ⟨g, cap, cur, rfl, h1, by rw [x.block g (hb g rfl)]; exact h2, h3⟩
theorem one_val (x : Int) : ∀ u ∈ [Value.int .i64 x], u.oneCell' = true := fun u hu => by simp at hu; subst hu; rfl
theorem tv_one (t : TurnL) : ∀ u ∈ tv t, u.oneCell' = true := fun u hu => by
  simp [tv] at hu
  rcases hu with rfl | rfl | rfl <;> rfl
theorem info68 : (Try.prog.info? 68).map (fun i => (i.zero, i.size, i.bytes)) = some (some (.agg #[.int .i64 0, .int .i64 0, .bool false]), 3, 24) := by kernel_rfl

/-- A list that is built by append. -/
structure CL (w wr : World) (L : List Int) (v : Value) : Prop where
  own : wr.ownsRow w.heap.size 2 1 v L.length (L.map (Value.int .i64))
  bl : Bel w wr
theorem CL.step {w wr w3 : World} {L : List Int} {v v3 : Value} (h : CL w wr L v) (x : Int)
    (hown : w3.ownsRow w.heap.size 2 1 v3 (L.length + 1) (L.map (Value.int .i64) ++ [.int .i64 x])) (hgrow : (wr.alloc (.cells #[.int .i64 x] 2)).grownBy w3 v.ownBlock) : CL w w3 (L ++ [x]) v3 := by
  refine ⟨?_, (h.bl.alloc (Below.size h.bl) _).grown hgrow (by have := Below.size h.bl; simp; omega) (fun j hj => (h.own.lt j hj).1)⟩
  rw [List.length_append, List.map_append]
  exact hown
theorem CL.szP {w wr : World} {L : List Int} {v : Value} (h : CL w wr L v) (x : Int) : w.heap.size ≤ (wr.alloc (.cells #[.int .i64 x] 2)).heap.size := by
  have h1 : wr.heap.size ≤ (wr.alloc (.cells #[.int .i64 x] 2)).heap.size := Below.size ((Ext.refl wr).alloc #[.int .i64 x] 2).bl
  exact Nat.le_trans (Below.size h.bl) h1
theorem CL.start (w : World) : CL w (w.alloc (.cells #[] 2)) [] (.slice (some ⟨w.heap.size, 0, none⟩) 0 0) :=
  ⟨World.ownsRow_made (base := w.heap.size) (e := 2) (size := 1) w #[] 0 (Nat.le_refl _) (by unfold maxLen; omega) rfl, ((Ext.refl w).alloc _ _).bl⟩

/-- The world of the loop over the turns: what is held lies in block g, the turns are a row of the call's own. -/
structure SW (w wr : World) (g : Nat) (held : List Int) (ts : List TurnL) (v : Value) : Prop where
  row : Row wr g 0 held
  gf : ∀ o, wr.frozen? ⟨g, o, none⟩ = false
  g0 : w.heap.size ≤ g
  g1 : g < wr.heap.size
  own : wr.ownsRow w.heap.size 68 3 v ts.length (tcells ts)
  dj : v.ownBlock ≠ some g
  bl : Bel w wr
theorem SW.ext {w wr W : World} {g : Nat} {held : List Int} {ts : List TurnL} {v : Value} (h : SW w wr g held ts v) (x : Ext wr W) : SW w W g held ts v :=
  ⟨h.row.ext x, fun o => (x.fz _).trans (h.gf o), h.g0, Nat.lt_of_lt_of_le h.g1 (Below.size x.bl), own_below h.own x.bl (fun k hk => (h.own.lt k hk).2), h.dj, Bel.tr h.bl x.bl⟩
theorem SW.set {w wr : World} {g : Nat} {held : List Int} {ts : List TurnL} {v : Value} (h : SW w wr g held ts v) (k : Nat) (hk : k < held.length) (x : Int) : SW w (wr.setCell ⟨g, k, none⟩ (.int .i64 x)) g (held.set k x) ts v := by
  have hr := h.row.set hk x
  rw [Nat.zero_add] at hr
  exact ⟨hr, fun o => (World.frozen?_setCell _ _ _ _).trans (h.gf o), h.g0, by have := h.g1; simpa [World.setCell] using this, ownsRow_setCell_other h.own h.dj _, h.dj, h.bl.setCell (p := ⟨g, k, none⟩) h.g0 _⟩
theorem SW.push {w wr w3 : World} {g : Nat} {held : List Int} {ts : List TurnL} {v v3 : Value} (h : SW w wr g held ts v) (t : TurnL)
    (hown : w3.ownsRow w.heap.size 68 3 v3 (ts.length + 1) (tcells ts ++ tv t)) (hgrow : (wr.alloc (.cells #[.int .i64 t.1, .int .i64 t.2.1, .bool t.2.2] 68)).grownBy w3 v.ownBlock)
    (hat : v3.ownBlock = v.ownBlock ∨ v3.ownBlock = some (wr.alloc (.cells #[.int .i64 t.1, .int .i64 t.2.1, .bool t.2.2] 68)).heap.size) : SW w w3 g held (ts ++ [t]) v3 := by
  have g1 := h.g1
  have hb : w3.heap[g]? = wr.heap[g]? := by
    rw [hgrow.block g (by simp; omega) (fun e => h.dj e.symm)]
    exact ((Ext.refl wr).alloc #[.int .i64 t.1, .int .i64 t.2.1, .bool t.2.2] 68).bl.block g g1
  refine ⟨fun j hj => (World.cell?_of_block hb).trans (h.row j hj), fun o => (World.frozen?_of_block hb).trans (h.gf o), h.g0, ?_, ?_, ?_, ?_⟩
  · have := hgrow.size
    simp at this
    omega
  · rw [List.length_append, tcells_snoc]
    exact hown
  · rcases hat with q | q
    · rw [q]; exact h.dj
    · rw [q]
      simp
      omega
  · exact (h.bl.alloc (Below.size h.bl) _).grown hgrow (by have := Below.size h.bl; simp; omega) (fun j hj => (h.own.lt j hj).1)
theorem SW.szP {w wr : World} {g : Nat} {held : List Int} {ts : List TurnL} {v : Value} (h : SW w wr g held ts v) (A : Array Value) : w.heap.size ≤ (wr.alloc (.cells A 68)).heap.size := by
  have h1 : wr.heap.size ≤ (wr.alloc (.cells A 68)).heap.size := Below.size ((Ext.refl wr).alloc A 68).bl
  exact Nat.le_trans (Below.size h.bl) h1
theorem three_new (W : World) (t : TurnL) : ∀ j u, (tv t)[j]? = some u → (W.alloc (.cells #[.int .i64 t.1, .int .i64 t.2.1, .bool t.2.2] 68)).cell? ((⟨W.heap.size, 0, none⟩ : Addr).add j) = some u := fun j u hu => by
  have n1 := fun j => new_cell W #[.int .i64 t.1, .int .i64 t.2.1, .bool t.2.2] 68 W.heap.size rfl j
  rw [Addr.add_lit, Nat.zero_add, n1 j]
  simpa [tv] using hu
theorem emod_of_tmod (p : Int) (n : Nat) (hn : 1 ≤ n) : (if Int.tmod p n < 0 then Int.tmod p n + n else Int.tmod p n) = (((p.emod n).toNat : Nat) : Int) := by
  have h1 : p.emod (n : Int) < (n : Int) := Int.emod_lt_of_pos _ (by omega)
  have h2 : 0 ≤ p.emod (n : Int) := Int.emod_nonneg _ (by omega)
  have e := Int.tmod_eq_emod (a := p) (b := (n : Int))
  have e3 : p % (n : Int) = p.emod n := rfl
  rw [e3] at e
  split at e
  · rw [if_neg (by omega)]; omega
  · rw [if_pos (by omega)]; omega
theorem tmod_bd (p : Int) (n : Nat) (hn : 1 ≤ n ∧ n ≤ 64) : -64 ≤ Int.tmod p n ∧ Int.tmod p n ≤ 64 := by
  have h1 : p.emod (n : Int) < (n : Int) := Int.emod_lt_of_pos _ (by omega)
  have h2 : 0 ≤ p.emod (n : Int) := Int.emod_nonneg _ (by omega)
  have e := Int.tmod_eq_emod (a := p) (b := (n : Int))
  have e3 : p % (n : Int) = p.emod n := rfl
  rw [e3] at e
  split at e <;> omega
end Go.Proofs.Ytjjemnlknnnkbaa
