import Derived.Test.YtfhcpicddegblaaGreatM7
import Derived.Test.YtfhcpicddegblaaGreatM8
import Derived.Test.YtfhcpicddegblaaGreatM8
import Derived.Test.YtfhcpicddegblaaGreatM8
namespace Go.Proofs.YtfhcpicddegblaaGreat
open Go.ChangeShapes Go.RowKit Go.Shelf FL
set_option linter.unusedSimpArgs false
set_option linter.unusedVariables false

attribute [local go_sem] Oper.semAt_some

/-- What was written was there: all cells are as they were. -/
structure Sm1 (b : Nat) (W W' : World) : Prop where
  cell : ∀ c q x, W.cell? ⟨c, q, none⟩ = some x → W'.cell? ⟨c, q, none⟩ = some x
  mu : Mut b W W'
theorem Sm1.refl (b : Nat) (W : World) : Sm1 b W W := ⟨fun _ _ _ h => h, Mut.refl b W⟩
theorem Sm1.set {b : Nat} {W W' : World} (h : Sm1 b W W') {o : Nat} {v : Value} (hv : W.cell? ⟨b, o, none⟩ = some v) : Sm1 b W (W'.setCell ⟨b, o, none⟩ v) := by
  refine ⟨fun c q x hx => ?_, h.mu.setCell o v⟩
  have h1 := h.cell c q x hx
  have h2 := h.cell b o v hv
  by_cases e : (⟨b, o, none⟩ : Addr) = ⟨c, q, none⟩
  · rw [← e, World.cell?_setCell_same _ _ _ h2]
    rw [← e, h2] at h1
    exact h1
  · rw [World.cell?_setCell_other _ _ _ _ (by first | exact e | exact fun z => e z.symm)]
    exact h1
/-- The lanes, as floats. -/
def laneF (RL : List C3) (K i : Nat) : List Nat := ((RL.drop (i * K)).take K).map (·.2.1)
/-- The rows of the system, when the lanes L have come. -/
structure RwI (w0 : World) (sB base K : Nat) (RL : List C3) (L : List Nat) (W : World) : Prop where
  ex : ∃ (rv : Value) (bs : List Nat), W.cell? ⟨sB, 0, none⟩ = some rv ∧ W.ownsRow base 67 1 rv L.length (bs.map fun b => .slice (some ⟨b, 0, none⟩) K K) ∧ bs.length = L.length ∧
    (∀ i, i < L.length → FRow W (bs.getD i 0) (laneF RL K (L.getD i 0)) ∧ (laneF RL K (L.getD i 0)).length = K ∧ base ≤ bs.getD i 0 ∧ bs.getD i 0 < W.heap.size ∧ rv.ownBlock ≠ some (bs.getD i 0)) ∧ (∀ i j, i < j → j < L.length → bs.getD i 0 < bs.getD j 0)
  fz : ∀ o, W.frozen? ⟨sB, o, none⟩ = w0.frozen? ⟨sB, o, none⟩
  r1 : ∀ o x, o ≠ 0 → w0.cell? ⟨sB, o, none⟩ = some x → W.cell? ⟨sB, o, none⟩ = some x
  keep : ∀ c o x, c < base → c ≠ sB → w0.cell? ⟨c, o, none⟩ = some x → W.cell? ⟨c, o, none⟩ = some x
theorem FRow.kept {A B : World} {b : Nat} {L : List Nat} {row : Option Nat} (h : FRow A b L) (hl : 0 < L.length) (hg : A.grownBy B row) (hr : ∀ r, row = some r → ∃ o : Obj, A.heap[r]? = some o ∧ o.isCells = false) : FRow B b L := by
  obtain ⟨o, h1, h2⟩ := cells_of_cell (h.cell 0 hl)
  exact h.block (grownBy_keeps_cells hg hr h1 h2)
theorem RwI.kept {w0 : World} {sB base K : Nat} {RL : List C3} {L : List Nat} {A B : World} {row : Option Nat} (hK : 0 < K) (h : RwI w0 sB base K RL L A) (hg : A.grownBy B row) (hr : ∀ r, row = some r → ∃ o : Obj, A.heap[r]? = some o ∧ o.isCells = false) : RwI w0 sB base K RL L B := by
  obtain ⟨rv, bs, h1, h2, h3, h4, h5⟩ := h.ex
  have hblk : ∀ {k : Nat} {o : Obj}, A.heap[k]? = some o → o.isCells = true → B.heap[k]? = A.heap[k]? := fun h1 h2 => grownBy_keeps_cells hg hr h1 h2
  obtain ⟨ob, ho1, ho2⟩ := cells_of_cell h1
  refine ⟨⟨rv, bs, cell_kept h1 hg hr, ?_, h3, fun i hi => ?_, h5⟩, fun o => ?_, fun o x ho hx => cell_kept (h.r1 o x ho hx) hg hr, fun c o x hc hn hx => cell_kept (h.keep c o x hc hn hx) hg hr⟩
  · refine ⟨h2.1, ?_⟩
    rcases h2.2 with h2 | ⟨g, cap, cur, rfl, q1, q2, q3⟩
    · exact Or.inl h2
    · exact Or.inr ⟨g, cap, cur, rfl, q1, (hblk q2 rfl).trans q2, q3⟩
  · obtain ⟨q1, q2, q3, q4, q5⟩ := h4 i hi
    exact ⟨q1.kept (by omega) hg hr, q2, q3, Nat.lt_of_lt_of_le q4 hg.size, q5⟩
  · exact (World.frozen?_of_block (w := A) (a := ⟨sB, o, none⟩) (hblk ho1 ho2)).trans (h.fz o)
theorem map_snoc (bs : List Nat) (K b : Nat) : (bs.map fun b => Value.slice (some ⟨b, 0, none⟩) K K) ++ [.slice (some ⟨b, 0, none⟩) K K] = (bs ++ [b]).map fun b => Value.slice (some ⟨b, 0, none⟩) K K := by simp
theorem getD_snoc {α : Type} (l : List α) (a d : α) (i : Nat) : (l ++ [a]).getD i d = if i < l.length then l.getD i d else if i = l.length then a else d := by
  simp only [List.getD_eq_getElem?_getD]
  by_cases h : i < l.length
  · rw [if_pos h, List.getElem?_append_left h]
  · rw [if_neg h]
    by_cases e : i = l.length
    · subst e; simp
    · rw [if_neg e, List.getElem?_append_right (by omega)]
      rw [List.getElem?_eq_none (by simp; omega)]
      rfl
theorem RwI.step {w0 : World} {sB base K x : Nat} {RL : List C3} {L : List Nat} {W W' : World} (h : RwI w0 sB base K RL L W) (hbW : base ≤ W.heap.size) (hsB : sB < base) (hln : (laneF RL K x).length = K) {rv : Value} {bs : List Nat}
    (h1 : W.cell? ⟨sB, 0, none⟩ = some rv) (h3 : bs.length = L.length)
    (h4 : ∀ i, i < L.length → FRow W (bs.getD i 0) (laneF RL K (L.getD i 0)) ∧ (laneF RL K (L.getD i 0)).length = K ∧ base ≤ bs.getD i 0 ∧ bs.getD i 0 < W.heap.size ∧ rv.ownBlock ≠ some (bs.getD i 0)) (h5 : ∀ i j, i < j → j < L.length → bs.getD i 0 < bs.getD j 0) (hov : ∀ c, rv.ownBlock = some c → base ≤ c ∧ c < W.heap.size)
    {b g cap : Nat} (s : S1 W sB base rv L.length (bs.map fun b => .slice (some ⟨b, 0, none⟩) K K) K (laneF RL K x) W' b g cap) : RwI w0 sB base K RL (L ++ [x]) W' := by
  have e1 : (L ++ [x]).length = L.length + 1 := by simp
  refine ⟨⟨.slice (some ⟨g, 0, none⟩) (L.length + 1) cap, bs ++ [b], s.box, ?_, by simp [h3], fun i hi => ?_, fun i j hij hj => ?_⟩, fun o => (s.bfz o).trans (h.fz o), fun o y ho hy => s.r1 o y ho (h.r1 o y ho hy), fun c o y hc hn hy => ?_⟩
  · rw [e1, ← map_snoc]; exact s.own
  · rw [e1] at hi
    rw [getD_snoc, getD_snoc, h3]
    by_cases e : i < L.length
    · rw [if_pos e, if_pos e]
      obtain ⟨q1, q2, q3, q4, q5⟩ := h4 i e
      refine ⟨q1.block (s.keep _ q4 (by omega) q5), q2, q3, Nat.lt_of_lt_of_le q4 s.size, fun z => ?_⟩
      simp only [Value.ownBlock] at z
      injection z with z
      rcases s.gb with w1 | w1
      · exact q5 (by rw [w1, z])
      · have := s.blo; omega
    · have e2 : i = L.length := by omega
      rw [if_neg e, if_neg e, if_pos e2, if_pos e2]
      refine ⟨s.row, hln, by have := s.blo; omega, s.bhi, fun z => ?_⟩
      simp only [Value.ownBlock] at z
      injection z with z
      rcases s.gb with w1 | w1
      · have := hov g w1
        have := s.blo
        omega
      · omega
  · rw [e1] at hj
    rw [getD_snoc, getD_snoc, h3]
    by_cases e : j < L.length
    · rw [if_pos e, if_pos (by omega)]; exact h5 i j hij e
    · rw [if_neg e, if_pos (show j = L.length by omega), if_pos (by omega)]
      have := (h4 i (by omega)).2.2.2.1
      have := s.blo
      omega
  · have q := h.keep c o y hc hn hy
    exact (World.cell?_of_block (w := W) (a := ⟨c, o, none⟩) (s.keep c (cell_lt q) hn (fun z => by have := hov c z; omega))).trans q

theorem crow_lane {w : World} {b i K : Nat} {RL : List C3} (h : CRow w b 0 RL) : CRow w b (i * K * 3) ((RL.drop (i * K)).take K) := fun j hj => by
  rw [List.length_take, List.length_drop] at hj
  have e : ((RL.drop (i * K)).take K).getD j k0 = RL.getD (i * K + j) k0 := by
    rw [List.getD_eq_getElem?_getD, List.getElem?_take, if_pos (by omega), List.getElem?_drop, List.getD_eq_getElem?_getD]
  rw [e]
  obtain ⟨a, b', c⟩ := h (i * K + j) (by omega)
  rw [Nat.zero_add, Nat.add_mul] at a b' c
  exact ⟨a, b', c⟩
/-- The rows of the system. -/
structure Rows (w : World) (sB K : Nat) (RL : List C3) (w' : World) (g cap : Nat) (bs : List Nat) : Prop where
  box : w'.cell? ⟨sB, 0, none⟩ = some (.slice (some ⟨g, 0, none⟩) K cap)
  r1 : ∀ o x, o ≠ 0 → w.cell? ⟨sB, o, none⟩ = some x → w'.cell? ⟨sB, o, none⟩ = some x
  fz : ∀ o, w'.frozen? ⟨sB, o, none⟩ = w.frozen? ⟨sB, o, none⟩
  out : ∀ i, i < K → w'.cell? ⟨g, i, none⟩ = some (.slice (some ⟨bs.getD i 0, 0, none⟩) K K)
  ofz : ∀ o, w'.frozen? ⟨g, o, none⟩ = false
  len : bs.length = K
  row : ∀ i, i < K → FRow w' (bs.getD i 0) (laneF RL K i) ∧ (laneF RL K i).length = K ∧ w.heap.size ≤ bs.getD i 0 ∧ bs.getD i 0 ≠ g
  inc : ∀ i j, i < j → j < K → bs.getD i 0 < bs.getD j 0
  glo : w.heap.size ≤ g
  keep : ∀ c o x, c ≠ sB → w.cell? ⟨c, o, none⟩ = some x → w'.cell? ⟨c, o, none⟩ = some x
  bl : Below sB w w'
  size : w.heap.size ≤ w'.heap.size

set_option maxRecDepth 100000 in
set_option maxHeartbeats 4000000 in
theorem eachLane_in (n : Nat) (hn : 6 ≤ n) (K : Nat) (hK : 0 < K) (t0 t1 off st dt : Int) {w : World} {su : Option Addr} {cu sB : Nat} {cs : List C3} (hcv : CV w (.slice su cs.length cu) cs) (hlc : cs.length ≤ 1048576) (hv : ValidV [(K : Int), (K : Int)] [t0, t1] off) (hin : ∀ p ∈ offsL [(K : Int), (K : Int)] [t0, t1] off, p < (cs.length : Int))
    (hRL : (offsL [(K : Int), (K : Int)] [t0, t1] off).length = K * K) (hg : ∀ c ∈ cs, B64 c.2.1) (hbox : w.cell? ⟨sB, 0, none⟩ = some (.slice none 0 0)) (hfz : w.frozen? ⟨sB, 0, none⟩ = false) :
    CallsIn Fence.wide n Tryz.prog 41 #[.agg #[.int .i64 2, .int .i64 K, .int .i64 K, .int .i64 0, .int .i64 0, .int .i64 t0, .int .i64 t1, .int .i64 0, .int .i64 0, .int .i64 off, .int .i64 st, .int .i64 dt, .slice su cs.length cu], .int .i64 1, .func (.func 42) #[] #[.pointer (some ⟨sB, 0, none⟩)]] w fun e w' => e = .returned (.tuple #[]) ∧ ∃ g cap bs, Rows w sB K ((offsL [(K : Int), (K : Int)] [t0, t1] off).map fun p => cs.getD p.toNat k0) w' g cap bs := by
  have hdd : ∀ k : Nat, (Fence.wide.depth.isSome = true → 1 ≤ k) := fun k h => by cases h
  have hKK : K * K ≤ 4096 := by
    have q := hv.1.2.2
    have e : prod [(K : Int), (K : Int)] = ((K * K : Nat) : Int) := by show (1 * (K : Int)) * K = _; push_cast; rw [Int.one_mul]
    rw [e] at q
    omega
  have hK2 : K ≤ 4096 := Nat.le_trans (Nat.le_mul_self K) hKK
  have hsB := cell_lt hbox
  obtain ⟨RL, hRLe⟩ : ∃ RL, RL = ((offsL [(K : Int), (K : Int)] [t0, t1] off).map fun p => cs.getD p.toNat k0) := ⟨_, rfl⟩
  have hRLl : RL.length = K * K := by rw [hRLe, List.length_map]; exact hRL
  have hlane : ∀ i, i < K → (laneF RL K i).length = K ∧ ((RL.drop (i * K)).take K).length = K := fun i hi => by
    have hle : (i + 1) * K ≤ K * K := Nat.mul_le_mul_right K hi
    rw [Nat.add_mul, Nat.one_mul] at hle
    have : ((RL.drop (i * K)).take K).length = K := by rw [List.length_take, List.length_drop, hRLl]; omega
    exact ⟨by unfold laneF; rw [List.length_map]; exact this, this⟩
  have hRLg : ∀ c ∈ RL, B64 c.2.1 := fun c hc => by
    rw [hRLe] at hc
    obtain ⟨p, hp, rfl⟩ := List.mem_map.1 hc
    have h1 := (offs_in hv p hp).1
    have h2 := hin p hp
    rw [List.getD_eq_getElem?_getD, List.getElem?_eq_getElem (by omega)]
    exact hg _ (List.getElem_mem _)
  have hlb : ∀ i j, B64 ((((RL.drop (i * K)).take K).map (·.2.1)).getD j 0) := fun i j => by
    rw [List.getD_eq_getElem?_getD]
    cases e : (((RL.drop (i * K)).take K).map (·.2.1))[j]? with
    | none => unfold B64; decide
    | some x =>
      have := List.mem_of_getElem? e
      obtain ⟨c, hc, rfl⟩ := List.mem_map.1 this
      exact hRLg c (List.mem_of_mem_drop (List.mem_of_mem_take hc))
  have x0 : Ext w ((w.alloc (.cells #[.int .i64 2, .int .i64 K, .int .i64 K, .int .i64 0, .int .i64 0, .int .i64 t0, .int .i64 t1, .int .i64 0, .int .i64 0, .int .i64 off, .int .i64 st, .int .i64 dt, .slice su cs.length cu] 85)).alloc (.cells #[.func (.func 42) #[] #[.pointer (some ⟨sB, 0, none⟩)]] 96)) := ((Ext.refl w).alloc _ _).alloc _ _
  have x1 : Ext (w.alloc (.cells #[.int .i64 2, .int .i64 K, .int .i64 K, .int .i64 0, .int .i64 0, .int .i64 t0, .int .i64 t1, .int .i64 0, .int .i64 0, .int .i64 off, .int .i64 st, .int .i64 dt, .slice su cs.length cu] 85)) ((w.alloc (.cells #[.int .i64 2, .int .i64 K, .int .i64 K, .int .i64 0, .int .i64 0, .int .i64 t0, .int .i64 t1, .int .i64 0, .int .i64 0, .int .i64 off, .int .i64 st, .int .i64 dt, .slice su cs.length cu] 85)).alloc (.cells #[.func (.func 42) #[] #[.pointer (some ⟨sB, 0, none⟩)]] 96)) := (Ext.refl _).alloc _ _
  have hs2 : (((w.alloc (.cells #[.int .i64 2, .int .i64 K, .int .i64 K, .int .i64 0, .int .i64 0, .int .i64 t0, .int .i64 t1, .int .i64 0, .int .i64 0, .int .i64 off, .int .i64 st, .int .i64 dt, .slice su cs.length cu] 85)).alloc (.cells #[.func (.func 42) #[] #[.pointer (some ⟨sB, 0, none⟩)]] 96))).heap.size = w.heap.size + 2 := by simp
  have ka : ∀ j x, #[.int .i64 2, .int .i64 K, .int .i64 K, .int .i64 0, .int .i64 0, .int .i64 t0, .int .i64 t1, .int .i64 0, .int .i64 0, .int .i64 off, .int .i64 st, .int .i64 dt, .slice su cs.length cu][j]? = some x → (((w.alloc (.cells #[.int .i64 2, .int .i64 K, .int .i64 K, .int .i64 0, .int .i64 0, .int .i64 t0, .int .i64 t1, .int .i64 0, .int .i64 0, .int .i64 off, .int .i64 st, .int .i64 dt, .slice su cs.length cu] 85)).alloc (.cells #[.func (.func 42) #[] #[.pointer (some ⟨sB, 0, none⟩)]] 96))).cell? ⟨w.heap.size, j, none⟩ = some x := fun j x hx => x1.box ((new_cell w #[.int .i64 2, .int .i64 K, .int .i64 K, .int .i64 0, .int .i64 0, .int .i64 t0, .int .i64 t1, .int .i64 0, .int .i64 0, .int .i64 off, .int .i64 st, .int .i64 dt, .slice su cs.length cu] 85 w.heap.size rfl j).trans hx)
  have kf : (((w.alloc (.cells #[.int .i64 2, .int .i64 K, .int .i64 K, .int .i64 0, .int .i64 0, .int .i64 t0, .int .i64 t1, .int .i64 0, .int .i64 0, .int .i64 off, .int .i64 st, .int .i64 dt, .slice su cs.length cu] 85)).alloc (.cells #[.func (.func 42) #[] #[.pointer (some ⟨sB, 0, none⟩)]] 96))).cell? ⟨w.heap.size + 1, 0, none⟩ = some (.func (.func 42) #[] #[.pointer (some ⟨sB, 0, none⟩)]) := new_cell (w.alloc (.cells #[.int .i64 2, .int .i64 K, .int .i64 K, .int .i64 0, .int .i64 0, .int .i64 t0, .int .i64 t1, .int .i64 0, .int .i64 0, .int .i64 off, .int .i64 st, .int .i64 dt, .slice su cs.length cu] 85)) #[.func (.func 42) #[] #[.pointer (some ⟨sB, 0, none⟩)]] 96 (w.heap.size + 1) (by simp) 0
  have hcnt := hide (fun W => count_any W [(K : Int), (K : Int)] hv.1.1 hv.1.2.1)
  have hrd := hide (fun W (hB : Bel w W) => readc_in (n - 1) (by omega) [(K : Int), (K : Int)] [t0, t1] off st dt (hcv.keep hB) hlc hv hin)
  have hpr : prod [(K : Int), (K : Int)] = ((K * K : Nat) : Int) := by show (1 * (K : Int)) * K = _; push_cast; rw [Int.one_mul]
  rw [hpr] at hcnt
  unfold shp at hcnt
  rw [← hRLe] at hrd ⊢
  have hKp : 0 < K * K := Nat.mul_pos hK hK
  have hz0 : ((((K * K : Nat) : Int)) == 0) = false := by rw [beq_eq_false_iff_ne]; omega
  generalize hKq : K * K = KQ at *
  have HKQ := hide hKq
  clear hKq
  have HKA := hide ka
  have HKF := hide kf
  have X0 := hide x0
  have HS2 := hide hs2
  have k0' := ka 0 _ rfl
  have k1' := ka 1 _ rfl
  have k2' := ka 2 _ rfl
  have k3' := ka 3 _ rfl
  have k4' := ka 4 _ rfl
  clear ka kf x0 x1 hs2 hcv hv hin hRL hRLe hg hRLg
  simp only [List.length_cons, List.length_nil, Nat.zero_add, Nat.reduceAdd, Int.cast_ofNat_Int, List.getD_cons_zero, List.getD_cons_succ, List.getD_nil] at hcnt hrd
  refine callsIn_of_wp_marks Tryz.func41 rfl trivial ?_ rfl
  simp only [Tryz.ntmps41, List.size_toArray, List.length_cons, List.length_nil, Nat.reduceAdd, Nat.reduceSub, Array.replicate_succ, Array.replicate_zero, List.push_toArray, List.append_toArray, List.nil_append, List.cons_append]
  gi_wp2
  refine ⟨trivial, hdd _, ?_⟩
  refine (callsIn_wide.2 (hcnt.out _)).mono ?_
  rintro e w3 ⟨rfl, hw3⟩
  have x3 : Ext ((w.alloc (.cells #[.int .i64 2, .int .i64 K, .int .i64 K, .int .i64 0, .int .i64 0, .int .i64 t0, .int .i64 t1, .int .i64 0, .int .i64 0, .int .i64 off, .int .i64 st, .int .i64 dt, .slice su cs.length cu] 85)).alloc (.cells #[.func (.func 42) #[] #[.pointer (some ⟨sB, 0, none⟩)]] 96)) w3 := by rw [hw3]; exact (Ext.refl _).alloc _ _
  have X3 := hide (X0.out.trans x3)
  have HK3 : Hid (∀ j x, #[.int .i64 2, .int .i64 K, .int .i64 K, .int .i64 0, .int .i64 0, .int .i64 t0, .int .i64 t1, .int .i64 0, .int .i64 0, .int .i64 off, .int .i64 st, .int .i64 dt, .slice su cs.length cu][j]? = some x → w3.cell? ⟨w.heap.size, j, none⟩ = some x) := fun j x hx => x3.box (HKA.out j x hx)
  have HF3 := hide (x3.box HKF.out)
  have c0 := HK3.out 0 _ rfl
  have c1 := HK3.out 1 _ rfl
  have c2 := HK3.out 2 _ rfl
  have c3 := HK3.out 3 _ rfl
  have c4 := HK3.out 4 _ rfl
  have c5 := HK3.out 5 _ rfl
  have c6 := HK3.out 6 _ rfl
  have c7 := HK3.out 7 _ rfl
  have c8 := HK3.out 8 _ rfl
  have c9 := HK3.out 9 _ rfl
  have c10 := HK3.out 10 _ rfl
  have c11 := HK3.out 11 _ rfl
  have c12 := HK3.out 12 _ rfl
  clear hw3 hcnt k0' k1' k2' k3' k4' x3 HKA HKF
  gi_wp2
  refine ⟨trivial, hdd _, ?_⟩
  refine (callsIn_wide.2 (axisLast_any w3 K K 0 0 t0 t1 0 0 off)).mono ?_
  rintro e w4 ⟨rfl, x4⟩
  have X4 := hide (X3.out.trans x4)
  have HF4 := hide (x4.box HF3.out)
  have c0 := x4.box c0
  have c1 := x4.box c1
  have c2 := x4.box c2
  have c3 := x4.box c3
  have c4 := x4.box c4
  have c5 := x4.box c5
  have c6 := x4.box c6
  have c7 := x4.box c7
  have c8 := x4.box c8
  have c9 := x4.box c9
  have c10 := x4.box c10
  have c11 := x4.box c11
  have c12 := x4.box c12
  have HK4 : Hid (∀ j x, #[.int .i64 2, .int .i64 K, .int .i64 K, .int .i64 0, .int .i64 0, .int .i64 t0, .int .i64 t1, .int .i64 0, .int .i64 0, .int .i64 off, .int .i64 st, .int .i64 dt, .slice su cs.length cu][j]? = some x → w4.cell? ⟨w.heap.size, j, none⟩ = some x) := fun j x hx => x4.box (HK3.out j x hx)
  have fz := fun (q : Nat) => X4.out.unfrozen (b := w.heap.size) (Nat.le_refl _) q
  have f0 := fz 0
  have f1 := fz 1
  have f2 := fz 2
  have f3 := fz 3
  have f4 := fz 4
  have f5 := fz 5
  have f6 := fz 6
  have f7 := fz 7
  have f8 := fz 8
  have f9 := fz 9
  clear x4 HK3 HF3 fz
  gi_wp2
  refine ⟨trivial, hdd _, ?_⟩
  have SM : Hid (Sm1 w.heap.size w4 ((((((((((w4.setCell ⟨w.heap.size, 0, none⟩ (.int .i64 2)).setCell ⟨w.heap.size, 1, none⟩ (.int .i64 K)).setCell ⟨w.heap.size, 2, none⟩ (.int .i64 K)).setCell ⟨w.heap.size, 3, none⟩ (.int .i64 0)).setCell ⟨w.heap.size, 4, none⟩ (.int .i64 0)).setCell ⟨w.heap.size, 5, none⟩ (.int .i64 t0)).setCell ⟨w.heap.size, 6, none⟩ (.int .i64 t1)).setCell ⟨w.heap.size, 7, none⟩ (.int .i64 0)).setCell ⟨w.heap.size, 8, none⟩ (.int .i64 0)).setCell ⟨w.heap.size, 9, none⟩ (.int .i64 off))) := (((((((((((Sm1.refl w.heap.size w4).set c0).set c1).set c2).set c3).set c4).set c5).set c6).set c7).set c8).set c9)
  generalize ((((((((((w4.setCell ⟨w.heap.size, 0, none⟩ (.int .i64 2)).setCell ⟨w.heap.size, 1, none⟩ (.int .i64 K)).setCell ⟨w.heap.size, 2, none⟩ (.int .i64 K)).setCell ⟨w.heap.size, 3, none⟩ (.int .i64 0)).setCell ⟨w.heap.size, 4, none⟩ (.int .i64 0)).setCell ⟨w.heap.size, 5, none⟩ (.int .i64 t0)).setCell ⟨w.heap.size, 6, none⟩ (.int .i64 t1)).setCell ⟨w.heap.size, 7, none⟩ (.int .i64 0)).setCell ⟨w.heap.size, 8, none⟩ (.int .i64 0)).setCell ⟨w.heap.size, 9, none⟩ (.int .i64 off)) = W5 at SM ⊢
  have HBW : Hid (Bel w W5) := Below.trans X4.out.bl ⟨SM.out.mu.os, SM.out.mu.tape, SM.out.mu.output, SM.out.mu.size, fun k hk => SM.out.mu.block k (by have := X4.out.bl.size; omega) (by omega)⟩
  refine (hrd.out W5 HBW.out).mono ?_
  rintro e w6 ⟨sa, cap, rfl, hO, hB6, hcap⟩
  rcases hO with hO | ⟨bc, rfl, hbc, hrow, _⟩
  · rw [hO] at hRLl; simp at hRLl; omega
  have F6 := hide (Bel.box hB6 (SM.out.cell _ _ _ HF4.out))
  have HB6 := hide (Bel.tr HBW.out hB6)
  have HR6 := hide hrow
  have hs6 : w.heap.size + 2 ≤ w6.heap.size := by have := cell_lt F6.out; omega
  have hs5 : w.heap.size ≤ W5.heap.size := HBW.out.size
  rw [hRLl] at hcap
  clear hrow hB6 hrd c0 c1 c2 c3 c4 c5 c6 c7 c8 c9 c10 c11 c12 f0 f1 f2 f3 f4 f5 f6 f7 f8 f9 HK4 HF4 X3 X4 X0 HS2 SM
  rw [hRLl]
  gi_wp2
  refine ⟨trivial, hdd _, ?_⟩
  refine (chunkF_in _ _ _ _ K hK hK2 _).mono ?_
  rintro e w' ⟨rfl, rfl⟩
  have h1 : 1 ≤ n := by omega
  gi_wp2
  have xv : Ext w6 ((w6.alloc (.cells #[.slice (some ⟨bc, 0, none⟩) KQ cap] 61)).alloc (.cells #[.int .i64 K] 3)) := ((Ext.refl w6).alloc _ _).alloc _ _
  have xv1 : Ext (w6.alloc (.cells #[.slice (some ⟨bc, 0, none⟩) KQ cap] 61)) ((w6.alloc (.cells #[.slice (some ⟨bc, 0, none⟩) KQ cap] 61)).alloc (.cells #[.int .i64 K] 3)) := (Ext.refl _).alloc _ _
  have hst2 := hide (chunk_stops (n - 1) w6.heap.size (w6.heap.size + 1) bc cap K K hK (by rw [HKQ.out]; exact hKK) (by rw [HKQ.out]; exact hcap) ((w6.alloc (.cells #[.slice (some ⟨bc, 0, none⟩) KQ cap] 61)).alloc (.cells #[.int .i64 K] 3))
    (by rw [HKQ.out]; exact xv1.box (new_cell w6 #[.slice (some ⟨bc, 0, none⟩) KQ cap] 61 w6.heap.size rfl 0)) (new_cell (w6.alloc (.cells #[.slice (some ⟨bc, 0, none⟩) KQ cap] 61)) #[.int .i64 K] 3 (w6.heap.size + 1) (by simp) 0))
  have hsV : ((w6.alloc (.cells #[.slice (some ⟨bc, 0, none⟩) KQ cap] 61)).alloc (.cells #[.int .i64 K] 3)).heap.size = w6.heap.size + 2 := by simp
  have FV := hide (xv.box F6.out)
  have RV := hide (HR6.out.keep xv.bl)
  have BV := hide (Bel.tr HB6.out xv.bl)
  have hbv := Bel.box BV.out hbox
  have hfv : ∀ o, ((w6.alloc (.cells #[.slice (some ⟨bc, 0, none⟩) KQ cap] 61)).alloc (.cells #[.int .i64 K] 3)).frozen? ⟨sB, o, none⟩ = w.frozen? ⟨sB, o, none⟩ := fun o => Below.frozen BV.out (p := ⟨sB, o, none⟩) hsB
  have HFV := hide hfv
  clear hfv xv xv1 F6 HR6 HB6
  generalize ((w6.alloc (.cells #[.slice (some ⟨bc, 0, none⟩) KQ cap] 61)).alloc (.cells #[.int .i64 K] 3)) = WV at *
  have I0 : Hid (RwI WV sB WV.heap.size K RL [] WV) := ⟨⟨.slice none 0 0, [], hbv, ⟨rfl, Or.inl ⟨rfl, rfl⟩⟩, rfl, fun i hi => by simp at hi, fun i j _ hj => by simp at hj⟩, fun _ => rfl, fun _ _ _ h => h, fun _ _ _ _ _ h => h⟩
  have hbcb : bc < WV.heap.size ∧ bc ≠ sB := ⟨cell_lt (RV.out 0 (by omega)).1, by omega⟩
  refine wpIn_rangeFunc_ownF rfl h1 (gf := 122) (lb := #[.pointer (some ⟨w6.heap.size, 0, none⟩), .pointer (some ⟨w6.heap.size + 1, 0, none⟩)]) rfl trivial (enters_of Tryz.func122 (by kernel_rfl) rfl)
    hst2.out (fun h k => KB.trans h k) (fun W l o o' h1 h2 h3 h4 => kb_put W l o o' h1 h2 h3 h4) (Below.refl _ _) (fun _ => rfl)
    (fun pre W => RwI WV sB WV.heap.size K RL (lnv pre) W ∧ Below sB WV W)
    (fun _ _ _ => False)
    (OwnFrom.and (Own.from (fun (s : List (Ln K)) A B row hs hg hr => (RwI.kept (L := lnv s) hK hs hg hr : RwI WV sB WV.heap.size K RL (lnv s) B)) _) (ownFrom_below (by omega) (by omega)))
    (fun _ _ _ _ _ hs _ _ => hs)
    ⟨I0.out, Below.refl _ _⟩
    (fun x => { tmps := #[.agg #[.int .i64 2, .int .i64 K, .int .i64 K, .int .i64 0, .int .i64 0, .int .i64 t0, .int .i64 t1, .int .i64 0, .int .i64 0, .int .i64 off, .int .i64 st, .int .i64 dt, .slice su cs.length cu], .int .i64 1, .func (.func 42) #[] #[.pointer (some ⟨sB, 0, none⟩)], .pointer (some ⟨w.heap.size, 0, none⟩), undef, .pointer (some ⟨w.heap.size + 1, 0, none⟩), .int .i64 K, .slice (some ⟨bc, x.1 * K * 3, none⟩) K K, .pointer (some ⟨w.heap.size, 0, none⟩), .pointer (some ⟨w.heap.size, 0, none⟩), .agg #[.int .i64 2, .int .i64 K, .int .i64 K, .int .i64 0, .int .i64 0], .int .i64 KQ, .bool false, .int .i64 1, .pointer (some ⟨w.heap.size, 0, none⟩), .pointer (some ⟨w.heap.size, 0, none⟩), .pointer (some ⟨w.heap.size, 1, none⟩), .pointer (some ⟨w.heap.size, 2, none⟩), .int .i64 K, .pointer (some ⟨w.heap.size, 0, none⟩), .agg #[.int .i64 2, .int .i64 K, .int .i64 K, .int .i64 0, .int .i64 0, .int .i64 t0, .int .i64 t1, .int .i64 0, .int .i64 0, .int .i64 off], .int .i64 1, .agg #[.int .i64 2, .int .i64 K, .int .i64 K, .int .i64 0, .int .i64 0, .int .i64 t0, .int .i64 t1, .int .i64 0, .int .i64 0, .int .i64 off], .pointer (some ⟨w.heap.size, 0, none⟩), .agg #[.int .i64 2, .int .i64 K, .int .i64 K, .int .i64 0, .int .i64 0, .int .i64 t0, .int .i64 t1, .int .i64 0, .int .i64 0, .int .i64 off, .int .i64 st, .int .i64 dt, .slice su cs.length cu], .slice (some ⟨bc, 0, none⟩) KQ cap, .int .i64 K, .func (.func 122) #[] #[.pointer (some ⟨w6.heap.size, 0, none⟩), .pointer (some ⟨w6.heap.size + 1, 0, none⟩)], .slice (some ⟨bc, x.1 * K * 3, none⟩) K K, undef, undef, undef], defers := [] }) ?assign ?body ?done ?stop
  case assign =>
    intro l x W K hK
    gi_wp2
    exact hK
  case body =>
    rintro l pre ⟨x, hx⟩ W ⟨hI, hB⟩ hlen
    obtain ⟨rv, bs, q1, q2, q3, q4, q5⟩ := hI.ex
    have hvf := hI.keep (w.heap.size + 1) 0 _ (by omega) (by omega) FV.out
    have hsz : WV.heap.size ≤ W.heap.size := hB.size
    have hrow : CRow W bc (x * K * 3) ((RL.drop (x * K)).take K) := crow_lane (fun j hj => ⟨hI.keep _ _ _ hbcb.1 hbcb.2 (RV.out j hj).1, hI.keep _ _ _ hbcb.1 hbcb.2 (RV.out j hj).2.1, hI.keep _ _ _ hbcb.1 hbcb.2 (RV.out j hj).2.2⟩)
    have hov : ∀ c, rv.ownBlock = some c → WV.heap.size ≤ c ∧ c < W.heap.size := fun c hc => q2.lt c hc
    have HS := hide (solve1_any (sB := sB) (base := WV.heap.size) (k := (lnv pre).length) hrow (by rw [(hlane x hx).2]; exact hK) (hlb x) (by rw [(hlane x hx).2]; exact hK2) q1 ((hI.fz 0).trans ((HFV.out 0).trans hfz)) q2 (by rw [lnv_len]; omega) hsz (by omega))
    rw [(hlane x hx).2] at HS
    have HI := hide hI
    have HB := hide hB
    have Q1 := hide q1
    have Q2 := hide q2
    have Q4 := hide q4
    have Q5 := hide q5
    have Hov := hide hov
    clear hI hB q1 q2 q4 q5 hov hrow
    gi_wp2
    refine ⟨trivial, hdd _, ?_⟩
    refine (CallsIn.inRound l (callsIn_wide.2 HS.out)).mono ?_
    rintro e W' ⟨rfl, b, g, cap', s⟩
    have HEND : Hid (RwI WV sB WV.heap.size K RL (lnv (pre ++ [⟨x, hx⟩])) W') := by
      have e1 : lnv (pre ++ [⟨x, hx⟩]) = lnv pre ++ [x] := by rw [lnv_append]; rfl
      show RwI _ _ _ _ _ (lnv (pre ++ [⟨x, hx⟩])) _
      rw [e1]
      exact HI.out.step hsz (by omega) (hlane x hx).1 Q1.out q3 Q4.out Q5.out Hov.out s
    have HBE := hide (HB.out.trans (s.bl sB (Nat.le_refl _) (by omega)))
    have HKO : Hid (KeepsOthers W W') := ⟨s.size, fun k o hk ho => by
      have hkl := (Array.getElem?_eq_some_iff.1 hk).1
      refine (s.keep k hkl (fun e => ?_) (fun e => ?_)).trans hk
      · obtain ⟨ob, w1, w2⟩ := cells_of_cell Q1.out
        rw [e, w1] at hk
        injection hk with hk
        rw [hk, ho] at w2
        cases w2
      · rcases Q2.out.2 with ⟨w1, _⟩ | ⟨g', cap'', cur, w1, _, w3, _⟩
        · rw [w1] at e; simp [Value.ownBlock] at e
        · rw [w1] at e
          simp only [Value.ownBlock] at e
          injection e with e
          rw [← e, w3] at hk
          injection hk with hk
          rw [← hk] at ho
          simp [Obj.isCells] at ho⟩
    have HKB : Hid (KB (fun k => k = w6.heap.size ∨ k = w6.heap.size + 1) W W') := ⟨s.size, fun k o hk h1 _ => (s.keep k (Array.getElem?_eq_some_iff.1 h1).1 (by rcases hk with rfl | rfl <;> omega) (fun e => by have := Hov.out k e; rcases hk with rfl | rfl <;> omega)).trans h1⟩
    clear s
    gi_wp2
    exact ⟨HKO.out, HKB.out, HEND.out, HBE.out⟩
  case done =>
    rintro D ys W hD hS ⟨hI, hB⟩ hKd
    have hI2 := RwI.kept hK hI (grownBy_putObj' W D (.deferred none)) (fun r e => by cases e; exact ⟨_, hKd, rfl⟩)
    have hBF : Below sB w (W.putObj D (.deferred none)) := (Below.mono BV.out (by omega)).trans (hB.trans (belowK_b (w := WV) (by omega) W D _ _ (by omega) hKd rfl rfl))
    have HI2 := hide hI2
    have HBF := hide hBF
    clear hI hI2 hB hBF
    gi_wp2
    refine ⟨by simp, .inl ⟨_, _, rfl, run_takeDeferred hKd, ?_⟩⟩
    refine ⟨_, results_none rfl _ _ _, rfl, ?_⟩
    have hI2 := HI2.out
    rw [show lnv ys = List.range K from hS] at hI2
    obtain ⟨rv, bs, q1, q2, q3, q4, q5⟩ := hI2.ex
    rw [List.length_range] at q2 q3 q4 q5
    obtain ⟨g, cap', rfl, hgb⟩ := own_g q2 hK
    have hrg : ∀ i, i < K → (List.range K).getD i 0 = i := fun i hi => by simp [List.getD_eq_getElem?_getD, hi]
    refine ⟨g, cap', bs, q1, fun o y ho hy => hI2.r1 o y ho (Bel.box BV.out hy), fun o => (hI2.fz o).trans (HFV.out o), fun i hi => ?_, fun o => q2.frozenAt o, q3, fun i hi => ?_, q5, by have := BV.out.size; omega, fun c o y hc hy => hI2.keep c o y (by have := cell_lt hy; have := BV.out.size; omega) hc (Bel.box BV.out hy), HBF.out, HBF.out.size⟩
    · refine (q2.cellAt i (by omega)).trans ?_
      rw [List.getElem?_map, List.getD_eq_getElem?_getD, List.getElem?_eq_getElem (by omega)]
      rfl
    · obtain ⟨r1, r2, r3, r4, r5⟩ := q4 i hi
      rw [hrg i hi] at r1 r2
      refine ⟨r1, r2, by have := BV.out.size; omega, fun e => r5 ?_⟩
      rw [e]; rfl
  case stop =>
    rintro D c pre W _ _ h _
    exact h.elim
end Go.Proofs.YtfhcpicddegblaaGreat
