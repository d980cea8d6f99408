import Derived.Test.YtfhcpicddegblaaGreatM9
import Derived.Test.YtfhcpicddegblaaGreatFsLw
import Derived.Test.YtfhcpicddegblaaGreatM10
import Derived.Test.YtfhcpicddegblaaGreatFsOpn
import Derived.Test.YtfhcpicddegblaaGreatM5
import Derived.Test.YtfhcpicddegblaaGreatM3
import Derived.Test.YtfhcpicddegblaaGreatM8
import Derived.Test.YtfhcpicddegblaaGreatFsHw
import Derived.Deep.RegionHeld3
import Derived.Test.YtfhcpicddegblaaGreatFsF
import Derived.Test.YtfhcpicddegblaaGreatM1
namespace Go.Proofs.YtfhcpicddegblaaGreat
open Go.ChangeShapes Go.RowKit FL
set_option linter.unusedSimpArgs false
set_option linter.unusedVariables false

theorem offs_count {xs sv : List Int} {off : Int} (hv : ValidV xs sv off) : (offsL xs sv off).length = (prod xs).toNat := by
  unfold offsL
  split
  · next h => rw [h]; rfl
  · rw [places_len xs sv off hv.2.1.symm]
    have h1 := prod_plen (fun m hm => (good_nonneg hv.1 m hm).1)
    omega
def Ar.dt (ss : List St) (a : Ar) : Int := (ss.getD a.st.toNat s0).1
def Ar.rd (ss : List St) (a : Ar) : List C3 := readL ss a.st a.xs a.sv a.off
def Ar.offs (a : Ar) : List Int := offsL a.xs a.sv a.off
/-- The shapes fit. -/
def fitB (a b o : Ar) : Bool := decide (b.xs.length = 1 ∧ a.xs = [b.xs.getD 0 0, b.xs.getD 0 0] ∧ b.xs = o.xs)
def dblB (ss : List St) (a b o : Ar) : Bool := decide (a.dt ss = 8 ∧ b.dt ss = 8 ∧ o.dt ss = 8)
def solN (b : Ar) : Nat := (b.xs.getD 0 0).toNat
/-- The system. -/
def sys0 (ss : List St) (a b : Ar) : Sys := ((List.range (solN b)).map fun i => laneF (a.rd ss) (solN b) i, (b.rd ss).map (·.2.1))
/-- The code that Solve answers. -/
def solveC (ss : List St) (a b o : Ar) : Int :=
  if firstL ss [a, b, o] ≠ 0 then firstL ss [a, b, o]
  else if dblB ss a b o = false then 4
  else if fitB a b o = false then 6
  else if WrV o.xs o.sv o.off then (if ((sys0 ss a b).elim (solN b)).isSome then 0 else 11)
  else 9
def SolveOk (ss : List St) (a b o : Ar) (c : Int) (ts : List St) : Prop := c = solveC ss a b o ∧ ((c ≠ 0 ∧ ts = []) ∨ (c = 0 ∧ o.Good ss ∧ ∃ t1 X, (sys0 ss a b).elim (solN b) = some t1 ∧ X.length = solN b ∧ SmL X (t1.back (solN b)) ∧ (∀ j, B64 (X.getD j 0)) ∧ ts = putS ss o.st.toNat o.offs X o.offs.length))
theorem putN_sm (cs : List C3) (L : List Int) {X Y : List Nat} (h : SmL X Y) (j : Nat) : CSm (putN cs L X j) (putN cs L Y j) := by
  induction j with
  | zero => exact CSm.refl _
  | succ j ih =>
    refine ⟨by rw [putN_len, putN_len], fun i hi => ?_⟩
    rw [putN_len] at hi
    rw [putN, putN, st_set, st_set, putN_len, putN_len]
    split
    · exact ⟨rfl, h.at j, same_self _⟩
    · exact ih.2 i (by rw [putN_len]; exact hi)
theorem SolveOk.same {ss : List St} {a b o : Ar} {c c' : Int} {ts ts' : List St} (h : SolveOk ss a b o c ts) (k : SolveOk ss a b o c' ts') : c = c' ∧ SSm ts ts' := by
  obtain ⟨h1, h2⟩ := h
  obtain ⟨k1, k2⟩ := k
  have e : c = c' := h1.trans k1.symm
  refine ⟨e, ?_⟩
  rcases h2 with ⟨h2, rfl⟩ | ⟨h2, _, t1, X, q1, q2, q3, q4, rfl⟩
  · rcases k2 with ⟨_, rfl⟩ | ⟨k2, _⟩
    · exact SSm.refl _
    · omega
  · rcases k2 with ⟨k2, _⟩ | ⟨k2, _, t2, Y, r1, r2, r3, r4, rfl⟩
    · omega
    · have et : t1 = t2 := by rw [q1] at r1; injection r1
      subst et
      have hs : SmL X Y := q3.trans r3.symm
      refine ⟨by rw [putS_len, putS_len], fun j hj => ?_⟩
      rw [putS_len] at hj
      unfold putS
      rw [st_set, st_set]
      split
      · exact ⟨rfl, putN_sm _ _ hs _⟩
      · exact ⟨rfl, CSm.refl _⟩
theorem putN_good {cs : List C3} (h : CG cs) (L : List Int) {X : List Nat} (hX : ∀ j, B64 (X.getD j 0)) (j : Nat) : CG (putN cs L X j) := by
  induction j with
  | zero => exact h
  | succ j ih =>
    intro c hc
    rw [putN] at hc
    rcases List.mem_or_eq_of_mem_set hc with q | q
    · exact ih c q
    · rw [q]; exact ⟨by unfold I64; omega, hX j, by show B64 0; unfold B64; omega⟩
theorem SolveOk.good {ss : List St} {a b o : Ar} {c : Int} {ts : List St} (h : SolveOk ss a b o c ts) (hg : SG ss) : SG ts := by
  obtain ⟨h1, ⟨h2, rfl⟩ | ⟨h2, hgo, t1, X, q1, q2, q3, q4, rfl⟩⟩ := h
  · intro s hs; cases hs
  · intro s hs
    unfold putS at hs
    rcases List.mem_or_eq_of_mem_set hs with q | q
    · exact hg s q
    · rw [q]
      have h0 := hgo.1
      exact putN_good (hg.at o.st.toNat (by omega)) _ q4 _
theorem SolveOk.few {ss : List St} {a b o : Ar} {c : Int} {ts : List St} (h : SolveOk ss a b o c ts) (hl : SL ss 1048576) : SL ts 1048576 := by
  obtain ⟨h1, ⟨h2, rfl⟩ | ⟨h2, hgo, t1, X, q1, q2, q3, q4, rfl⟩⟩ := h
  · exact ⟨by simp, fun s hs => by cases hs⟩
  · refine ⟨by rw [putS_len]; exact hl.1, fun s hs => ?_⟩
    unfold putS at hs
    rcases List.mem_or_eq_of_mem_set hs with q | q
    · exact hl.2 s q
    · rw [q]
      have h0 := hgo.1
      show (putN _ _ _ _).length ≤ _
      rw [putN_len]
      exact hl.at o.st.toNat (by omega)
/-- The system is square, and its numbers are of 64 bits. -/
theorem sys0_sq {ss : List St} {a b o : Ar} (hf : fitB a b o = true) (ha : a.Good ss) (hb : b.Good ss) : (sys0 ss a b).Sq (solN b) ∧ (a.rd ss).length = solN b * solN b ∧ (b.rd ss).length = solN b ∧ a.xs = [(solN b : Int), (solN b : Int)] ∧ b.xs = [(solN b : Int)] ∧ o.xs = [(solN b : Int)] ∧ solN b ≤ 4096 := by
  obtain ⟨f1, f2, f3⟩ := of_decide_eq_true hf
  have hv := hb.2.1
  have hn0 : 0 ≤ b.xs.getD 0 0 ∧ b.xs.getD 0 0 ≤ 4096 := by
    have := hv.1.2.1 0 (by omega)
    exact this
  have en : ((solN b : Nat) : Int) = b.xs.getD 0 0 := by unfold solN; omega
  have hbx : b.xs = [(solN b : Int)] := by
    rw [en]
    match hx : b.xs, f1 with
    | [x], _ => rfl
  have hax : a.xs = [(solN b : Int), (solN b : Int)] := by rw [en]; exact f2
  have hla : (a.rd ss).length = solN b * solN b := by
    unfold Ar.rd readL
    rw [List.length_map, offs_count ha.2.1, hax]
    show ((1 * (solN b : Int)) * (solN b : Int)).toNat = _
    rw [Int.one_mul, ← Int.natCast_mul, Int.toNat_natCast]
  have hlb : (b.rd ss).length = solN b := by
    unfold Ar.rd readL
    rw [List.length_map, offs_count hb.2.1, hbx]
    show (1 * (solN b : Int)).toNat = _
    rw [Int.one_mul, Int.toNat_natCast]
  refine ⟨⟨by simp [sys0], by simp [sys0, hlb], fun i hi => ?_⟩, hla, hlb, hax, hbx, by rw [← f3]; exact hbx, by unfold solN; omega⟩
  show (((List.range (solN b)).map fun i => laneF (a.rd ss) (solN b) i).getD i []).length = _
  rw [List.getD_eq_getElem?_getD, List.getElem?_map, List.getElem?_range hi]
  show (laneF (a.rd ss) (solN b) i).length = _
  unfold laneF
  have hle : (i + 1) * solN b ≤ solN b * solN b := Nat.mul_le_mul_right _ hi
  rw [Nat.add_mul, Nat.one_mul] at hle
  rw [List.length_map, List.length_take, List.length_drop, hla]
  omega
theorem rd_good {ss : List St} (hg : SG ss) {a : Ar} (ha : a.Good ss) : CG (a.rd ss) := fun c hc => by
  unfold Ar.rd readL at hc
  obtain ⟨p, hp, rfl⟩ := List.mem_map.1 hc
  have h1 := (offs_in ha.2.1 p hp).1
  have h2 := ha.2.2 p hp
  have h3 := ha.1
  exact (hg.at a.st.toNat (by omega)).at p.toNat (by omega)
/-- The rows one behind the other. -/
def flatR (A : Nat → Value) (Bf : List Nat) : Nat → List Value
  | 0 => []
  | k + 1 => flatR A Bf k ++ [A k, .float .f64 (Bf.getD k 0)]
theorem flatR_len (A : Nat → Value) (Bf : List Nat) (k : Nat) : (flatR A Bf k).length = k * 2 := by
  induction k with
  | zero => rfl
  | succ k ih => rw [flatR, List.length_append, ih]; simp; omega
theorem flatR_congr {A A' : Nat → Value} {Bf : List Nat} {k : Nat} (h : ∀ j, j < k → A j = A' j) : flatR A Bf k = flatR A' Bf k := by
  induction k with
  | zero => rfl
  | succ k ih => rw [flatR, flatR, ih (fun j hj => h j (by omega)), h k (by omega)]
theorem flatR_get (A : Nat → Value) (Bf : List Nat) (k j : Nat) (h : j < k) : (flatR A Bf k)[j * 2]? = some (A j) ∧ (flatR A Bf k)[j * 2 + 1]? = some (.float .f64 (Bf.getD j 0)) := by
  induction k with
  | zero => omega
  | succ k ih =>
    rw [flatR]
    by_cases e : j = k
    · subst e
      have hl := flatR_len A Bf j
      rw [List.getElem?_append_right (by omega), List.getElem?_append_right (by omega), hl]
      exact ⟨by simp, by simp⟩
    · have hl := flatR_len A Bf k
      rw [List.getElem?_append_left (by omega), List.getElem?_append_left (by omega)]
      exact ih (by omega)
/-- The specification's rows, when k have been made. -/
structure LrSt (w0 : World) (n : Nat) (RL : List C3) (Bf : List Nat) (k : Nat) (rv : Value) (A : Nat → Value) (bs cps : Nat → Nat) (W : World) : Prop where
  own : W.ownsRow w0.heap.size 69 2 rv k (flatR A Bf k)
  a : ∀ i, i < k → A i = .slice (some ⟨bs i, 0, none⟩) n (cps i)
  row : ∀ i, i < k → FRow W (bs i) (laneF RL n i) ∧ (laneF RL n i).length = n
  lt : ∀ i, i < k → w0.heap.size ≤ bs i ∧ bs i < W.heap.size ∧ rv.ownBlock ≠ some (bs i)
  inc : ∀ i j, i < j → j < k → bs i < bs j
  bl : Bel w0 W
theorem LrSt.step {w0 : World} {n : Nat} {RL : List C3} {Bf : List Nat} {k : Nat} {rv : Value} {A : Nat → Value} {bs cps : Nat → Nat} {W W5 w7 : World} (h : LrSt w0 n RL Bf k rv A bs cps W) (b5 : Bel W W5) {tmp : Obj} {c cp g cap : Nat} (hr : FRow W5 c (laneF RL n k)) (hln : (laneF RL n k).length = n) (hn : 0 < n) (hc : W.heap.size ≤ c)
    (hown : w7.ownsRow w0.heap.size 69 2 (.slice (some ⟨g, 0, none⟩) (k + 1) cap) (k + 1) (flatR A Bf k ++ [.slice (some ⟨c, 0, none⟩) n cp, .float .f64 (Bf.getD k 0)])) (hgrow : (W5.alloc tmp).grownBy w7 rv.ownBlock) (hat : rv.ownBlock = some g ∨ g = W5.heap.size + 1) :
    LrSt w0 n RL Bf (k + 1) (.slice (some ⟨g, 0, none⟩) (k + 1) cap) (fun j => if j = k then .slice (some ⟨c, 0, none⟩) n cp else A j) (fun j => if j = k then c else bs j) (fun j => if j = k then cp else cps j) w7 := by
  have hs5 := Below.size b5
  have hs7 := hgrow.size
  rw [World.size_alloc] at hs7
  have hw0 := h.bl.size
  have hov : ∀ c, rv.ownBlock = some c → w0.heap.size ≤ c ∧ c < W.heap.size := fun c hc => h.own.lt c hc
  have hb7 : ∀ b, b < W5.heap.size → rv.ownBlock ≠ some b → w7.heap[b]? = W5.heap[b]? := fun b hb hn => by
    rw [hgrow.block b (by rw [World.size_alloc]; omega) (fun e => hn e.symm)]
    exact ((Below.refl W5.heap.size W5).alloc (Nat.le_refl _) tmp).block b hb
  have hcl : c < W5.heap.size := cell_lt (hr.cell 0 (by omega))
  have hcn : rv.ownBlock ≠ some c := fun e => by have := hov c e; omega
  refine ⟨?_, fun i hi => ?_, fun i hi => ?_, fun i hi => ?_, fun i j hij hj => ?_, ⟨?_, ?_, ?_, ?_, fun b hb => ?_⟩⟩
  · rw [flatR, if_pos rfl, flatR_congr (A' := A) (fun j hj => if_neg (by omega))]
    exact hown
  · by_cases e : i = k
    · subst e; simp only [if_pos]
    · simp only [if_neg e]; exact h.a i (by omega)
  · by_cases e : i = k
    · subst e
      simp only [if_pos]
      exact ⟨hr.block (hb7 c hcl hcn), hln⟩
    · simp only [if_neg e]
      obtain ⟨r1, r2⟩ := h.row i (by omega)
      have hl := h.lt i (by omega)
      exact ⟨r1.block ((hb7 _ (by omega) hl.2.2).trans (b5.block _ hl.2.1)), r2⟩
  · by_cases e : i = k
    · subst e
      simp only [if_pos]
      refine ⟨by omega, by omega, fun z => ?_⟩
      simp only [Value.ownBlock] at z
      injection z with z
      rcases hat with q | q
      · exact hcn (by rw [q, z])
      · omega
    · simp only [if_neg e]
      have hl := h.lt i (by omega)
      refine ⟨hl.1, by omega, fun z => ?_⟩
      simp only [Value.ownBlock] at z
      injection z with z
      rcases hat with q | q
      · exact hl.2.2 (by rw [q, z])
      · omega
  · by_cases e : j = k
    · subst e
      simp only [if_pos, if_neg (show i ≠ j by omega)]
      have hl := h.lt i (by omega)
      omega
    · simp only [if_neg e, if_neg (show i ≠ k by omega)]
      exact h.inc i j hij (by omega)
  · exact hgrow.os.trans (b5.os.trans h.bl.os)
  · exact hgrow.tape.trans (b5.tape.trans h.bl.tape)
  · exact hgrow.output.trans (b5.output.trans h.bl.output)
  · omega
  · exact (hb7 b (by omega) (fun e => by have := hov b e; omega)).trans ((b5.block b (by omega)).trans (h.bl.block b hb))
theorem LrSt.sys {w0 : World} {n : Nat} {RL : List C3} {Bf : List Nat} {g cap : Nat} {A : Nat → Value} {bs cps : Nat → Nat} {W : World} (h : LrSt w0 n RL Bf n (.slice (some ⟨g, 0, none⟩) n cap) A bs cps W) (hB : Bf.length = n) (hb : ∀ j, B64 (Bf.getD j 0)) :
    SysSp W g n ((List.range n).map bs) ((List.range n).map cps) ((List.range n).map fun i => laneF RL n i, Bf) := by
  have e1 : ∀ i, i < n → ((List.range n).map bs).getD i 0 = bs i := fun i hi => by rw [List.getD_eq_getElem?_getD, List.getElem?_map, List.getElem?_range hi]; rfl
  have e2 : ∀ i, i < n → ((List.range n).map cps).getD i 0 = cps i := fun i hi => by rw [List.getD_eq_getElem?_getD, List.getElem?_map, List.getElem?_range hi]; rfl
  have e3 : ∀ i, i < n → ((List.range n).map fun i => laneF RL n i).getD i [] = laneF RL n i := fun i hi => by rw [List.getD_eq_getElem?_getD, List.getElem?_map, List.getElem?_range hi]; rfl
  refine ⟨⟨by simp, hB, fun i hi => ?_⟩, fun i hi => ?_, fun i hi => ?_, fun o => h.own.frozenAt o, fun i hi => ?_, fun i => hb i, fun i j hi hj hij => ?_, fun i hi => ?_, by simp, by simp⟩
  · show (((List.range n).map fun i => laneF RL n i).getD i []).length = n
    rw [e3 i hi]; exact (h.row i hi).2
  · rw [e1 i hi, e2 i hi, ← h.a i hi]
    exact (h.own.cellAt _ (by omega)).trans (flatR_get A Bf n i hi).1
  · exact (h.own.cellAt _ (by omega)).trans (flatR_get A Bf n i hi).2
  · show FRow W _ (((List.range n).map fun i => laneF RL n i).getD i [])
    rw [e1 i hi, e3 i hi]; exact (h.row i hi).1
  · rw [e1 i hi, e1 j hj]
    rcases Nat.lt_or_gt_of_ne hij with q | q
    · have := h.inc i j q hj; omega
    · have := h.inc j i q hi; omega
  · rw [e1 i hi]
    intro e
    exact (h.lt i hi).2.2 (by rw [e]; rfl)
/-- An array as an argument. -/
def AV (w : World) (v : Value) (a : Ar) : Prop := ∃ p c q d, v = .agg #[.int .i64 a.st, .slice p a.xs.length c, .slice q a.sv.length d, .int .i64 a.off] ∧ Ints w (.slice p a.xs.length c) a.xs ∧ Ints w (.slice q a.sv.length d) a.sv ∧ a.Len
/-- The boxes of a call of Solve: the heap, three arrays, the answer. -/
structure SBx (w : World) (B : Nat) (hv : Value) (A1 A2 A3 : List Value) (W : World) : Prop where
  h : W.cell? ⟨B, 0, none⟩ = some hv
  a : ∀ j x, A1[j]? = some x → W.cell? ⟨B + 1, j, none⟩ = some x
  b : ∀ j x, A2[j]? = some x → W.cell? ⟨B + 2, j, none⟩ = some x
  o : ∀ j x, A3[j]? = some x → W.cell? ⟨B + 3, j, none⟩ = some x
  r0 : W.cell? ⟨B + 4, 0, none⟩ = some (.int .i64 0)
  r1 : W.cell? ⟨B + 4, 1, none⟩ = some (.slice none 0 0)
  fz : ∀ j, W.frozen? ⟨B + 4, j, none⟩ = false
  bl : Bel w W
  sz : w.heap.size + 5 ≤ W.heap.size
theorem SBx.keep {w : World} {hv : Value} {A1 A2 A3 : List Value} {W W' : World} (h : SBx w w.heap.size hv A1 A2 A3 W) (x : Bel W W') : SBx w w.heap.size hv A1 A2 A3 W' :=
  ⟨Bel.box x h.h, fun j y hy => Bel.box x (h.a j y hy), fun j y hy => Bel.box x (h.b j y hy), fun j y hy => Bel.box x (h.o j y hy), Bel.box x h.r0, Bel.box x h.r1, fun j => (Below.frozen x (p := ⟨w.heap.size + 4, j, none⟩) (cell_lt h.r0)).trans (h.fz j), Bel.tr h.bl x, Nat.le_trans h.sz x.size⟩
theorem SBx.start (w : World) (hv : Value) (A1 A2 A3 : List Value) : SBx w w.heap.size hv A1 A2 A3 (((((w.alloc (.cells #[hv] 34)).alloc (.cells A1.toArray 41)).alloc (.cells A2.toArray 41)).alloc (.cells A3.toArray 41)).alloc (.cells #[.int .i64 0, .slice none 0 0] 36)) := by
  have e1 := (((((Ext.refl (w.alloc (.cells #[hv] 34)))).alloc A1.toArray 41).alloc A2.toArray 41).alloc A3.toArray 41).alloc #[.int .i64 0, .slice none 0 0] 36
  have e2 := ((((Ext.refl ((w.alloc (.cells #[hv] 34)).alloc (.cells A1.toArray 41)))).alloc A2.toArray 41).alloc A3.toArray 41).alloc #[.int .i64 0, .slice none 0 0] 36
  have e3 := (((Ext.refl (((w.alloc (.cells #[hv] 34)).alloc (.cells A1.toArray 41)).alloc (.cells A2.toArray 41)))).alloc A3.toArray 41).alloc #[.int .i64 0, .slice none 0 0] 36
  have e4 := ((Ext.refl ((((w.alloc (.cells #[hv] 34)).alloc (.cells A1.toArray 41)).alloc (.cells A2.toArray 41)).alloc (.cells A3.toArray 41)))).alloc #[.int .i64 0, .slice none 0 0] 36
  have e0 := ((((((Ext.refl w).alloc #[hv] 34)).alloc A1.toArray 41).alloc A2.toArray 41).alloc A3.toArray 41).alloc #[.int .i64 0, .slice none 0 0] 36
  refine ⟨e1.box (new_cell w #[hv] 34 _ rfl 0), fun j x hx => e2.box ((new_cell _ A1.toArray 41 (w.heap.size + 1) (by simp) j).trans (by simpa using hx)), fun j x hx => e3.box ((new_cell _ A2.toArray 41 (w.heap.size + 2) (by simp) j).trans (by simpa using hx)), fun j x hx => e4.box ((new_cell _ A3.toArray 41 (w.heap.size + 3) (by simp) j).trans (by simpa using hx)), new_cell _ #[.int .i64 0, .slice none 0 0] 36 (w.heap.size + 4) (by simp) 0, new_cell _ #[.int .i64 0, .slice none 0 0] 36 (w.heap.size + 4) (by simp) 1, fun j => e0.unfrozen (by omega) j, e0.bl, by simp⟩
theorem arow3 {w W : World} {B : Nat} {a b o : Ar} {p1 q1 p2 q2 p3 q3 : Option Addr} {c1 d1 c2 d2 c3 d3 : Nat} (hB : B = W.heap.size) (i1 : Ints w (.slice p1 a.xs.length c1) a.xs) (i2 : Ints w (.slice q1 a.sv.length d1) a.sv) (i3 : Ints w (.slice p2 b.xs.length c2) b.xs) (i4 : Ints w (.slice q2 b.sv.length d2) b.sv) (i5 : Ints w (.slice p3 o.xs.length c3) o.xs) (i6 : Ints w (.slice q3 o.sv.length d3) o.sv) (x : Bel w W) :
    ARow (W.alloc (.cells #[.int .i64 a.st, .slice p1 a.xs.length c1, .slice q1 a.sv.length d1, .int .i64 a.off, .int .i64 b.st, .slice p2 b.xs.length c2, .slice q2 b.sv.length d2, .int .i64 b.off, .int .i64 o.st, .slice p3 o.xs.length c3, .slice q3 o.sv.length d3, .int .i64 o.off] 41)) B 0 [a, b, o] := by
  have n1 := fun j => new_cell W #[.int .i64 a.st, .slice p1 a.xs.length c1, .slice q1 a.sv.length d1, .int .i64 a.off, .int .i64 b.st, .slice p2 b.xs.length c2, .slice q2 b.sv.length d2, .int .i64 b.off, .int .i64 o.st, .slice p3 o.xs.length c3, .slice q3 o.sv.length d3, .int .i64 o.off] 41 B hB j
  have xx : Bel w (W.alloc (.cells #[.int .i64 a.st, .slice p1 a.xs.length c1, .slice q1 a.sv.length d1, .int .i64 a.off, .int .i64 b.st, .slice p2 b.xs.length c2, .slice q2 b.sv.length d2, .int .i64 b.off, .int .i64 o.st, .slice p3 o.xs.length c3, .slice q3 o.sv.length d3, .int .i64 o.off] 41)) := Bel.tr x ((Ext.refl W).alloc _ _).bl
  intro j hj
  match j, hj with
  | 0, _ => exact ⟨_, _, n1 0, n1 1, n1 2, n1 3, ints_bel i1 xx, ints_bel i2 xx⟩
  | 1, _ => exact ⟨_, _, n1 4, n1 5, n1 6, n1 7, ints_bel i3 xx, ints_bel i4 xx⟩
  | 2, _ => exact ⟨_, _, n1 8, n1 9, n1 10, n1 11, ints_bel i5 xx, ints_bel i6 xx⟩
  | j + 3, hj => simp at hj; omega

theorem first_good {ss : List St} {a b o : Ar} (h : firstL ss [a, b, o] = 0) : a.Good ss ∧ b.Good ss ∧ o.Good ss := by
  unfold firstL at h
  split at h
  · split at h
    · next q => exact ⟨q a (by simp), q b (by simp), q o (by simp)⟩
    · omega
  · omega

theorem info69 : (Tryz.prog.info? 69).map (fun i => (i.zero, i.size, i.bytes)) = some (some (.agg #[.slice none 0 0, .float .f64 0]), 2, 32) := by kernel_rfl
/-- Floats as values. -/
def flv (L : List Nat) : List Value := L.map (.float .f64)
theorem flv_take (L : List Nat) (j : Nat) (h : j < L.length) : flv (L.take (j + 1)) = flv (L.take j) ++ [.float .f64 (L.getD j 0)] := by
  unfold flv
  rw [List.take_add_one, List.map_append, List.getD_eq_getElem?_getD, List.getElem?_eq_getElem h]
  rfl
theorem frow_own2 {W : World} {base g n cap : Nat} {L : List Nat} (h : W.ownsRow base 64 1 (.slice (some ⟨g, 0, none⟩) n cap) n (flv L)) (hl : L.length = n) (hb : ∀ j, B64 (L.getD j 0)) : FRow W g L := by
  refine ⟨fun j hj => ?_, fun o => h.frozenAt o, hb⟩
  refine (h.cellAt _ (by omega)).trans ?_
  unfold flv
  rw [List.getElem?_map, List.getElem?_eq_getElem hj, List.getD_eq_getElem?_getD, List.getElem?_eq_getElem hj]
  rfl
theorem laneF_len {RL : List C3} {n k : Nat} (hl : RL.length = n * n) (hk : k < n) : (laneF RL n k).length = n := by
  have hle : (k + 1) * n ≤ n * n := Nat.mul_le_mul_right _ hk
  rw [Nat.add_mul, Nat.one_mul] at hle
  unfold laneF
  rw [List.length_map, List.length_take, List.length_drop, hl]
  omega
theorem laneF_at {RL : List C3} {n k j : Nat} (hl : RL.length = n * n) (hk : k < n) (hj : j < n) : (laneF RL n k).getD j 0 = (RL.getD (k * n + j) k0).2.1 := by
  have hle : (k + 1) * n ≤ n * n := Nat.mul_le_mul_right _ hk
  rw [Nat.add_mul, Nat.one_mul] at hle
  have h1 : k * n + j < RL.length := by omega
  unfold laneF
  rw [List.getD_eq_getElem?_getD, List.getElem?_map, List.getElem?_take_of_lt hj, List.getElem?_drop, List.getElem?_eq_getElem h1, List.getD_eq_getElem?_getD, List.getElem?_eq_getElem h1]
  rfl
theorem b64_zero : B64 0 := by unfold B64; omega
theorem laneF_b64 {RL : List C3} (h : CG RL) (n k j : Nat) : B64 ((laneF RL n k).getD j 0) := by
  rw [List.getD_eq_getElem?_getD]
  cases e : (laneF RL n k)[j]? with
  | none => exact b64_zero
  | some x =>
    have h1 := List.mem_of_getElem? e
    unfold laneF at h1
    obtain ⟨c, hc, rfl⟩ := List.mem_map.1 h1
    exact (h c (List.mem_of_mem_drop (List.mem_of_mem_take hc))).2.1
theorem bs_b64 {BL : List C3} (h : CG BL) (j : Nat) : B64 ((BL.map (·.2.1)).getD j 0) := by
  rw [List.getD_eq_getElem?_getD]
  cases e : (BL.map (·.2.1))[j]? with
  | none => exact b64_zero
  | some x =>
    have h1 := List.mem_of_getElem? e
    obtain ⟨c, hc, rfl⟩ := List.mem_map.1 h1
    exact (h c hc).2.1
theorem LrSt.start (w0 : World) (n : Nat) (RL : List C3) (Bf : List Nat) : LrSt w0 n RL Bf 0 (.slice (some ⟨w0.heap.size, 0, none⟩) 0 0) (fun _ => .slice none 0 0) (fun _ => 0) (fun _ => 0) (w0.alloc (.cells #[] 69)) :=
  ⟨World.ownsRow_made (base := w0.heap.size) (e := 69) (size := 2) w0 #[] 0 (Nat.le_refl _) (by unfold maxLen; omega) (by simp), fun i hi => absurd hi (by omega), fun i hi => absurd hi (by omega), fun i hi => absurd hi (by omega), fun i j _ hj => absurd hj (by omega), ((Ext.refl w0).alloc _ _).bl⟩
theorem mutP_bel {p : Nat → Prop} {w0 W W' : World} (x : Bel w0 W) (h : MutP p W W') (hp : ∀ b, p b → w0.heap.size ≤ b) : Bel w0 W' :=
  ⟨h.os.trans x.os, h.tape.trans x.tape, h.output.trans x.output, Nat.le_trans x.size h.size, fun b hb => (h.block b (Nat.lt_of_lt_of_le hb x.size) (fun e => by have := hp b e; omega)).trans (x.block b hb)⟩
theorem LrSt.out {w0 W : World} {n : Nat} {RL : List C3} {Bf : List Nat} {g cap : Nat} {A : Nat → Value} {bs cps : Nat → Nat} (h : LrSt w0 n RL Bf n (.slice (some ⟨g, 0, none⟩) n cap) A bs cps W) (hn : 0 < n) : ∀ b, InG g n ((List.range n).map bs) b → w0.heap.size ≤ b := fun b hb => by
  rcases hb with rfl | ⟨i, hi, rfl⟩
  · exact own_lo h.own hn
  · rw [List.getD_eq_getElem?_getD, List.getElem?_map, List.getElem?_range hi]
    exact (h.lt i hi).1
theorem SmS.refl (s : Sys) : SmS s s := ⟨rfl, fun _ => SmL.refl _, SmL.refl _⟩
/-- What l5Solve answers over the rows that Solve made. -/
def RsOk (w0 : World) (n : Nat) (s : Sys) (e : Ending) (w' : World) : Prop := Bel w0 w' ∧ ((s.elim n = none ∧ ∃ v, e = .returned (.tuple #[v, .bool false])) ∨
  (∃ (t1 : Sys) (sX : Option Addr) (cX : Nat) (X : List Nat), s.elim n = some t1 ∧ e = .returned (.tuple #[.slice sX n cX, .bool true]) ∧ (n = 0 ∨ ∃ b, sX = some ⟨b, 0, none⟩ ∧ FRow w' b X) ∧ X.length = n ∧ SmL X (t1.back n) ∧ (∀ j, B64 (X.getD j 0))))
theorem LrSt.solve {w0 W : World} {n : Nat} {RL : List C3} {Bf : List Nat} {rv : Value} {A : Nat → Value} {bs cps : Nat → Nat} (h : LrSt w0 n RL Bf n rv A bs cps W) (hB : Bf.length = n) (hb : ∀ j, B64 (Bf.getD j 0)) (hn4 : n ≤ 4096) :
    Calls Tryz.prog 30 #[rv] W fun e w' => RsOk w0 n ((List.range n).map fun i => laneF RL n i, Bf) e w' := by
  rcases Nat.eq_zero_or_pos n with hz | hp
  · subst hz
    obtain ⟨sr, cr, rfl⟩ : ∃ sr cr, rv = .slice sr 0 cr := by
      rcases h.own.2 with ⟨h1, h2⟩ | ⟨g, cap, cur, h1, _⟩
      · exact ⟨none, 0, h1⟩
      · exact ⟨_, _, h1⟩
    refine (l5Solve_zero W sr cr).mono ?_
    rintro e w' ⟨⟨b, rfl⟩, x⟩
    have hB0 : Bf = [] := List.length_eq_zero_iff.1 hB
    refine ⟨Bel.tr h.bl x.bl, Or.inr ⟨_, _, _, [], rfl, rfl, Or.inl rfl, rfl, ?_, fun j => by simpa using b64_zero⟩⟩
    exact SmL.refl []
  · obtain ⟨g, cg, rfl, hgl⟩ := own_g h.own hp
    have HS := h.sys hB hb
    refine (l5Solve_any (cg := cg) HS (SmS.refl _) hp hn4).mono ?_
    rintro e w' ⟨hM, hres⟩
    refine ⟨mutP_bel h.bl hM (h.out hp), ?_⟩
    rcases hres with ⟨h1, v, rfl⟩ | ⟨t1, b, X, h1, rfl, h3, h4, h5⟩
    · exact Or.inl ⟨h1, v, rfl⟩
    · exact Or.inr ⟨t1, _, _, X, h1, rfl, Or.inr ⟨b, rfl, h3⟩, h4, h5, h3.b64⟩
theorem bel_grow {w0 W w7 : World} {v : Value} {tmp : Obj} (x : Bel w0 W) (hv : ∀ c, v.ownBlock = some c → w0.heap.size ≤ c) (hg : (W.alloc tmp).grownBy w7 v.ownBlock) : Bel w0 w7 := by
  have hs := hg.size
  rw [World.size_alloc] at hs
  have hx := x.size
  refine ⟨hg.os.trans x.os, hg.tape.trans x.tape, hg.output.trans x.output, by omega, fun b hb => ?_⟩
  rw [hg.block b (by rw [World.size_alloc]; omega) (fun e => by have := hv b e.symm; omega)]
  exact (((Below.refl W.heap.size W).alloc (Nat.le_refl _) tmp).block b (by omega)).trans (x.block b hb)
theorem HSp.far {w : World} {lo g : Nat} {cb : Nat → Nat} {ss : List St} (h : HSp w lo g cb ss) {b o : Nat} (hb : b < lo) (v : Value) : HSp (w.setCell ⟨b, o, none⟩ v) lo g cb ss := by
  have hc : ∀ {c q x}, lo ≤ c → w.cell? ⟨c, q, none⟩ = some x → (w.setCell ⟨b, o, none⟩ v).cell? ⟨c, q, none⟩ = some x := fun {c q x} hl hx => (World.cell?_of_block (w := w) (a := ⟨c, q, none⟩) (Below.heap_setCell _ _ _ _ (by show c ≠ b; omega))).trans hx
  refine ⟨fun j hj => hc h.lo_g (h.dt j hj), fun j hj => ?_, fun j hj hne => ?_, fun j hj hne q => ?_, h.lo_g, h.ne, h.nd⟩
  · obtain ⟨sa, cap, h1, h2⟩ := h.sl j hj
    exact ⟨sa, cap, hc h.lo_g h1, h2⟩
  · have hr := h.row j hj hne
    have hl := (h.ne j hj hne).2
    exact fun i hi => ⟨hc hl (hr i hi).1, hc hl (hr i hi).2.1, hc hl (hr i hi).2.2⟩
  · rw [World.frozen?_setCell]; exact h.fzr j hj hne q
/-- A heap of the specification's own: its blocks lie at lo or above. -/
def MSp (w : World) (lo : Nat) (u : Value) (ts : List St) : Prop := (u = .slice none 0 0 ∧ ts = []) ∨ ∃ g cap cb, u = .slice (some ⟨g, 0, none⟩) ts.length cap ∧ HSp w lo g cb ts
theorem MSp.sv {w : World} {lo : Nat} {u : Value} {ts : List St} (h : MSp w lo u ts) : SV w u ts := by
  rcases h with ⟨rfl, rfl⟩ | ⟨g, cap, cb, rfl, h⟩
  · exact ⟨none, 0, rfl, Or.inl rfl⟩
  · exact h.sv
theorem MSp.far {w : World} {lo : Nat} {u : Value} {ts : List St} (h : MSp w lo u ts) {b o : Nat} (hb : b < lo) (v : Value) : MSp (w.setCell ⟨b, o, none⟩ v) lo u ts :=
  h.imp id fun ⟨g, cap, cb, e, h⟩ => ⟨g, cap, cb, e, h.far hb v⟩
theorem MSp.keep {w w' : World} {lo : Nat} {u : Value} {ts : List St} (h : MSp w lo u ts) (x : Bel w w') : MSp w' lo u ts :=
  h.imp id fun ⟨g, cap, cb, e, h⟩ => ⟨g, cap, cb, e, h.keep (fun b _ hb => x.block b hb)⟩
theorem cv_cells {w : World} {base n : Nat} {v : Value} {X : List Nat} (hn : X.length = n) (h : w.ownsRow base 66 3 v n (flat (fcells X))) : ∃ sC cC, v = .slice sC X.length cC ∧ CV w (.slice sC X.length cC) (fcells X) := by
  obtain ⟨sa, cap, e, ho⟩ := own_cells (Nat.le_refl _) h
  rw [fcells_len] at e
  refine ⟨sa, cap, e, sa, cap, by rw [fcells_len], ?_⟩
  exact ho.imp id fun ⟨g, q1, q2, q3, q4⟩ => ⟨g, 0, q1, q3⟩
end Go.Proofs.YtfhcpicddegblaaGreat
namespace Go.Proofs.YtfhcpicddegblaaGreat
open Go.ChangeShapes Go.RowKit FL Ieee
set_option linter.unusedSimpArgs false
set_option linter.unusedVariables false

theorem near_no (n : Int) : feq (floatOfInt FloatKind.f64 n) (floatOfInt FloatKind.f64 n) = true := by
  rw [feq_self]
  have h : nanD (floatOfInt FloatKind.f64 n) = false := by
    show nanW double (double.nearest (decide (n < 0)) n.natAbs 0) = false
    unfold nanW
    rw [decide_eq_false_iff_not]
    have e : ∃ r, r ≤ double.infRung ∧ double.nearest (decide (n < 0)) n.natAbs 0 = double.word (decide (n < 0)) r := by
      unfold Format.nearest
      split
      · exact ⟨0, Nat.zero_le _, rfl⟩
      · exact ⟨_, Nat.min_le_right _ _, rfl⟩
    obtain ⟨r, h1, h2⟩ := e
    rw [h2]
    unfold Format.word
    rw [dI] at *
    rw [dW]
    split <;> omega
  rw [h]; rfl
attribute [local go_sem] near_no
/-- What mark lays at place j. -/
def cmk (k : Int) (j : Nat) : C3 := (k + 3 * j, floatOfInt FloatKind.f64 (k + 3 * j + 1), floatOfInt FloatKind.f64 (k + 3 * j + 1 + 1))
def ccount (n : Nat) (k : Int) : List C3 := (List.range n).map (cmk k)
theorem ccount_len (n : Nat) (k : Int) : (ccount n k).length = n := by simp [ccount]
theorem ccount_getD (n : Nat) (k : Int) (j : Nat) (hj : j < n) : (ccount n k).getD j k0 = cmk k j := by simp [ccount, List.getD_eq_getElem?_getD, hj]
/-- There are cells. -/
def Ex (w : World) (g off n : Nat) : Prop := ∀ o, o < 3 * n → ∃ x, w.cell? ⟨g, off + o, none⟩ = some x
def KE (w w' : World) : Prop := ∀ b o x, w.cell? ⟨b, o, none⟩ = some x → ∃ y, w'.cell? ⟨b, o, none⟩ = some y
theorem KE.refl (w : World) : KE w w := fun b o x h => ⟨x, h⟩
theorem KE.trans {a b c : World} (h : KE a b) (g : KE b c) : KE a c := fun k o x hx => by
  obtain ⟨y, hy⟩ := h k o x hx
  exact g k o y hy
theorem KE.set {w w' : World} (h : KE w w') (p : Addr) (v : Value) : KE w (w'.setCell p v) := h.trans fun b o x hx => by
  by_cases e : p = ⟨b, o, none⟩
  · subst e; exact ⟨v, World.cell?_setCell_same _ _ _ hx⟩
  · exact ⟨x, by rw [World.cell?_setCell_other _ _ _ _ (by first | exact e | exact fun q => e q.symm)]; exact hx⟩
theorem Ex.ke {w w' : World} {g off n : Nat} (h : Ex w g off n) (x : KE w w') : Ex w' g off n := fun o ho => by
  obtain ⟨y, hy⟩ := h o ho
  exact x _ _ _ hy
theorem CRow.ex {w : World} {g off : Nat} {cs : List C3} (h : CRow w g off cs) : Ex w g off cs.length := fun o ho => by
  obtain ⟨a, b, c⟩ := h (o / 3) (by omega)
  have : o % 3 = 0 ∨ o % 3 = 1 ∨ o % 3 = 2 := by omega
  rcases this with e | e | e
  · rw [show off + o = off + o / 3 * 3 by omega]; exact ⟨_, a⟩
  · rw [show off + o = off + o / 3 * 3 + 1 by omega]; exact ⟨_, b⟩
  · rw [show off + o = off + o / 3 * 3 + 2 by omega]; exact ⟨_, c⟩
theorem crow_more {W : World} {g off j : Nat} {k : Int} {x0 x1 x2 : Value} (h : CRow W g off (ccount j k)) (q0 : W.cell? ⟨g, off + j * 3, none⟩ = some x0) (q1 : W.cell? ⟨g, off + j * 3 + 1, none⟩ = some x1) (q2 : W.cell? ⟨g, off + j * 3 + 2, none⟩ = some x2) :
    CRow (((W.setCell ⟨g, off + j * 3, none⟩ (.int .i64 (k + 3 * j))).setCell ⟨g, off + j * 3 + 1, none⟩ (.float .f64 (floatOfInt FloatKind.f64 (k + 3 * j + 1)))).setCell ⟨g, off + j * 3 + 2, none⟩ (.float .f64 (floatOfInt FloatKind.f64 (k + 3 * j + 1 + 1)))) g off (ccount (j + 1) k) := fun i hi => by
  rw [ccount_len] at hi
  rw [ccount_getD (j + 1) k i hi]
  by_cases e : i = j
  · subst e
    exact ⟨near (by omega) (near (by omega) (World.cell?_setCell_same _ _ _ q0)), near (by omega) (World.cell?_setCell_same _ _ _ (near (by omega) q1)), World.cell?_setCell_same _ _ _ (near (by omega) (near (by omega) q2))⟩
  · obtain ⟨a, b, c⟩ := h i (by rw [ccount_len]; omega)
    rw [ccount_getD j k i (by omega)] at a b c
    exact ⟨near (by omega) (near (by omega) (near (by omega) a)), near (by omega) (near (by omega) (near (by omega) b)), near (by omega) (near (by omega) (near (by omega) c))⟩

set_option maxRecDepth 100000 in
set_option maxHeartbeats 1000000 in
theorem markC_any {w : World} {g off n cap : Nat} (h : Ex w g off n) (hf : ∀ o, w.frozen? ⟨g, o, none⟩ = false) (k : Int) (hk : 0 ≤ k ∧ k ≤ 1000000000000000) (hl : n ≤ 1048576) :
    Calls Tryz.prog 92 #[.slice (some ⟨g, off, none⟩) n cap, .int .i64 k] w fun e w' => e = .returned (.int .i64 (k + 3 * n)) ∧ CRow w' g off (ccount n k) ∧ Mut g w w' ∧ KE w w' := by
  have H := hide h
  clear h
  go_enter Tryz.func92, Tryz.ntmps92
  go_wp2
  go_loopw [1, 5] (fun m i wr => ∃ j : Nat, i = .int .i64 j ∧ m = .int .i64 (k + 3 * j) ∧ j ≤ n ∧ CRow wr g off (ccount j k) ∧ Mut g w wr ∧ KE w wr) (fun m i _ => n - (intOf i).toNat)
  case atStart => exact ⟨0, rfl, by simp, by omega, fun j hj => by simp [ccount] at hj, Mut.refl _ _, KE.refl _⟩
  case round =>
    obtain ⟨j, rfl, rfl, hj, hr, hm, he⟩ := hrel
    have HR := hide hr
    have HM := hide hm
    have HE := hide he
    clear hr hm he
    by_cases hlt : j < n
    · obtain ⟨x0, q0⟩ := (H.out.ke HE.out) (j * 3) (by omega)
      obtain ⟨x1, q1⟩ := (H.out.ke HE.out) (j * 3 + 1) (by omega)
      obtain ⟨x2, q2⟩ := (H.out.ke HE.out) (j * 3 + 2) (by omega)
      rw [← Nat.add_assoc] at q1 q2
      have qf := fun o => (HM.out.fz ⟨g, o, none⟩).trans (hf o)
      have hj0 : (0 : Int) ≤ (j : Int) := Int.natCast_nonneg _
      have hj1 : (j : Int) < (n : Int) := by omega
      have HSt := hide (crow_more HR.out q0 q1 q2)
      have p1 : (wr.setCell ⟨g, off + j * 3, none⟩ (.int .i64 (k + 3 * j))).cell? ⟨g, off + j * 3 + 1, none⟩ = _ := near (by omega) q1
      have p2 : ((wr.setCell ⟨g, off + j * 3, none⟩ (.int .i64 (k + 3 * j))).setCell ⟨g, off + j * 3 + 1, none⟩ (.float .f64 (floatOfInt FloatKind.f64 (k + 3 * j + 1)))).cell? ⟨g, off + j * 3 + 2, none⟩ = _ := near (by omega) (near (by omega) q2)
      go_wp2
      go_roundw
      · exact ⟨j + 1, by go_num, by congr 1; push_cast; omega, by omega, HSt.out, ((HM.out.setCell _ _).setCell _ _).setCell _ _, ((HE.out.set _ _).set _ _).set _ _⟩
      · simp [intOf]; omega
    · have hjj : j = n := by omega
      subst hjj
      go_wp2
      go_ret
      exact ⟨rfl, HR.out, HM.out, HE.out⟩

set_option maxRecDepth 100000 in
set_option maxHeartbeats 1000000 in
theorem markC_nil {w : World} {sa : Option Addr} {cap : Nat} (k : Int) :
    Calls Tryz.prog 92 #[.slice sa 0 cap, .int .i64 k] w fun e w' => e = .returned (.int .i64 k) ∧ w' = w := by
  go_enter Tryz.func92, Tryz.ntmps92
  go_wp2
  go_loopw [1, 5] (fun m i wr => i = .int .i64 0 ∧ m = .int .i64 k ∧ wr = w) (fun m i _ => 0)
  case atStart => exact ⟨rfl, rfl, rfl⟩
  case round =>
    obtain ⟨rfl, rfl, rfl⟩ := hrel
    go_wp2
    go_ret
    exact ⟨rfl, rfl⟩

set_option maxRecDepth 100000 in
set_option maxHeartbeats 1000000 in
theorem heldC_any {w : World} {v : Value} {n : Nat} (k : Int) (h : CV w v (ccount n k)) (hk : 0 ≤ k ∧ k ≤ 1000000000000000) (hl : n ≤ 1048576) :
    Calls Tryz.prog 127 #[v, .int .i64 k] w fun e w' => e = .returned (.int .i64 (k + 3 * n)) ∧ Ext w w' := by
  obtain ⟨sa, cap, rfl, hx⟩ := h
  rw [ccount_len]
  have HX := hide hx
  clear hx
  go_enter Tryz.func127, Tryz.ntmps127
  go_wp2
  go_loopw [1, 5] (fun m i wr => ∃ j : Nat, i = .int .i64 j ∧ m = .int .i64 (k + 3 * j) ∧ j ≤ n ∧ Ext w wr) (fun m i _ => n - (intOf i).toNat)
  case atStart => exact ⟨0, rfl, by simp, by omega, Ext.refl w⟩
  case round =>
    obtain ⟨j, rfl, rfl, hj, hw⟩ := hrel
    have HW := hide hw
    clear hw
    by_cases hlt : j < n
    · rcases HX.out with h0 | ⟨b, off, rfl, hrow⟩
      · have := congrArg List.length h0
        rw [ccount_len] at this; simp at this; omega
      have hr := hrow j (by rw [ccount_len]; exact hlt)
      rw [ccount_getD n k j hlt] at hr
      have q0 : wr.cell? ⟨b, off + j * 3, none⟩ = some (.int .i64 (k + 3 * j)) := HW.out.box hr.1
      have q1 : wr.cell? ⟨b, off + j * 3 + 1, none⟩ = some (.float .f64 (floatOfInt FloatKind.f64 (k + 3 * j + 1))) := HW.out.box hr.2.1
      have q2 : wr.cell? ⟨b, off + j * 3 + 2, none⟩ = some (.float .f64 (floatOfInt FloatKind.f64 (k + 3 * j + 1 + 1))) := HW.out.box hr.2.2
      have n1 := near_no (k + 3 * j + 1)
      have n2 := near_no (k + 3 * j + 1 + 1)
      clear hrow hr
      have hj0 : (0 : Int) ≤ (j : Int) := Int.natCast_nonneg _
      have hj1 : (j : Int) < (n : Int) := by omega
      go_wp2
      go_roundw
      · exact ⟨j + 1, by go_num, by congr 1; push_cast; omega, by omega, HW.out⟩
      · simp [intOf]; omega
    · have hjj : j = n := by omega
      subst hjj
      go_wp2
      go_ret
      exact ⟨rfl, HW.out⟩
end Go.Proofs.YtfhcpicddegblaaGreat
namespace Go.Proofs.YtfhcpicddegblaaGreat
open Go.ChangeShapes Go.RowKit FL
set_option linter.unusedSimpArgs false
set_option linter.unusedVariables false
theorem MIn.refl (lo hi : Nat) (w : World) (hl : lo ≤ w.heap.size) : MIn lo hi w w := (Ext.refl w).mIn hl
theorem MIn.tr {lo hi : Nat} {a b c : World} (x : MIn lo hi a b) (y : MIn lo hi b c) : MIn lo hi a c :=
  ⟨x.bl.trans y.bl, fun k o v hk hc => y.box k o v hk (x.box k o v hk hc), fun p => (y.fz p).trans (x.fz p)⟩
theorem mIn_set {lo hi b o : Nat} {w : World} (v : Value) (h1 : lo ≤ b) (h2 : b < hi) (hl : lo ≤ w.heap.size) : MIn lo hi w (w.setCell ⟨b, o, none⟩ v) := ((Mut.refl b w).setCell o v).mIn h1 h2 hl
/-- The stores' rows, whatever they hold. -/
def WRow (w : World) (lo hi b off : Nat) (ss : List St) : Prop := ∀ j, j < ss.length → (∃ x, w.cell? ⟨b, off + j * 2, none⟩ = some x) ∧ ∃ sa cap, w.cell? ⟨b, off + j * 2 + 1, none⟩ = some (.slice sa (ss.getD j s0).2.length cap) ∧ ((ss.getD j s0).2 = [] ∨ ∃ c o, sa = some ⟨c, o, none⟩ ∧ lo ≤ c ∧ c < hi ∧ Ex w c o (ss.getD j s0).2.length)
theorem SRowL.wrow {w : World} {lo b off : Nat} {ss : List St} (h : SRowL w lo b off ss) : WRow w lo w.heap.size b off ss := fun j hj => by
  obtain ⟨h1, u, h2, sa, cap, rfl, h3⟩ := h j hj
  refine ⟨⟨_, h1⟩, sa, cap, h2, ?_⟩
  rcases h3 with h3 | ⟨c, o, h4, h5, h6⟩
  · exact Or.inl h3
  · by_cases e : (ss.getD j s0).2 = []
    · exact Or.inl e
    · exact Or.inr ⟨c, o, h4, h5, cell_lt (h6 0 (List.length_pos_iff.2 e)).1, h6.ex⟩
theorem WRow.step {w w' : World} {lo hi b off : Nat} {ss : List St} (h : WRow w lo hi b off ss) (x : KE w w') (y : ∀ o v, o % 2 ≠ off % 2 → w.cell? ⟨b, o, none⟩ = some v → w'.cell? ⟨b, o, none⟩ = some v) : WRow w' lo hi b off ss := fun j hj => by
  obtain ⟨⟨u, h1⟩, sa, cap, h2, h3⟩ := h j hj
  refine ⟨x _ _ _ h1, sa, cap, y _ _ (by omega) h2, h3.imp id fun ⟨c, o, h4, h5, h6, h7⟩ => ⟨c, o, h4, h5, h6, h7.ke x⟩⟩

set_option maxRecDepth 100000 in
set_option maxHeartbeats 1000000 in
theorem markS_any {w : World} {lo hi b off cap : Nat} {ss : List St} (h : WRow w lo hi b off ss) (hb : b < lo) (hh : hi ≤ w.heap.size) (hbh : b < hi) (hf : ∀ c o, b ≤ c → c < hi → w.frozen? ⟨c, o, none⟩ = false) (hl : SL ss 1048576) (k : Int) (hk : 0 ≤ k ∧ k ≤ 1000) :
    Calls Tryz.prog 49 #[.slice (some ⟨b, off, none⟩) ss.length cap, .int .i64 k] w fun e w' => (∃ r : Int, e = .returned (.int .i64 r) ∧ 0 ≤ r ∧ r ≤ 1000 + 4194304 * 1048576) ∧ MIn b hi w w' := by
  have H := hide h
  have HF := hide hf
  have HL := hide hl
  have hl1 := hl.1
  clear h hf hl
  go_enter Tryz.func49, Tryz.ntmps49
  go_wp2
  go_loopw [1, 5] (fun m i wr => ∃ (j : Nat) (z : Int), i = .int .i64 j ∧ m = .int .i64 z ∧ j ≤ ss.length ∧ (0 ≤ z ∧ z ≤ 1000 + 4194304 * (j : Int)) ∧ WRow wr lo hi b off ss ∧ MIn b hi w wr) (fun m i _ => ss.length - (intOf i).toNat)
  case atStart => exact ⟨0, k, rfl, rfl, by omega, ⟨by omega, by omega⟩, H.out, MIn.refl _ _ _ (by omega)⟩
  case round =>
    obtain ⟨j, z, rfl, rfl, hj, hz, hr, hm⟩ := hrel
    have HR := hide hr
    have HM := hide hm
    clear hr hm
    by_cases hlt : j < ss.length
    · obtain ⟨⟨x0, q0⟩, sc, cc, q1, q2⟩ := HR.out j hlt
      have qf := fun o => (HM.out.fz ⟨b, o, none⟩).trans (HF.out b o (Nat.le_refl _) hbh)
      have hj0 : (0 : Int) ≤ (j : Int) := Int.natCast_nonneg _
      have hj1 : (j : Int) < (ss.length : Int) := by omega
      have hcl := HL.out.at j hlt
      have p1 : (wr.setCell ⟨b, off + j * 2, none⟩ (.int .i64 z)).cell? ⟨b, off + j * 2 + 1, none⟩ = _ := near (by omega) q1
      have hws := Below.size HM.out.bl
      have HW1 : Hid (WRow (wr.setCell ⟨b, off + j * 2, none⟩ (.int .i64 z)) lo hi b off ss) := HR.out.step ((KE.refl wr).set _ _) (fun o v ho hc => near (by omega) hc)
      have HM1 := hide (HM.out.tr (mIn_set (w := wr) (o := off + j * 2) (.int .i64 z) (Nat.le_refl b) hbh (by omega)))
      have HF1 : Hid (∀ c o, b ≤ c → c < hi → (wr.setCell ⟨b, off + j * 2, none⟩ (.int .i64 z)).frozen? ⟨c, o, none⟩ = false) := fun c o hc hc2 => (HM1.out.fz _).trans (HF.out c o hc hc2)
      have HE1 : Hid ((ss.getD j s0).2 = [] ∨ ∃ c o, sc = some ⟨c, o, none⟩ ∧ lo ≤ c ∧ c < hi ∧ Ex (wr.setCell ⟨b, off + j * 2, none⟩ (.int .i64 z)) c o (ss.getD j s0).2.length) := q2.imp id fun ⟨c, o, h4, h5, h6, h7⟩ => ⟨c, o, h4, h5, h6, h7.ke ((KE.refl wr).set _ _)⟩
      have hsz1 : b ≤ (wr.setCell ⟨b, off + j * 2, none⟩ (.int .i64 z)).heap.size := by have := cell_lt q0; simp [World.setCell]; omega
      clear q2
      generalize (ss.getD j s0).2 = cs at *
      go_wp2_with fail
      generalize wr.setCell ⟨b, off + j * 2, none⟩ (.int .i64 z) = W1 at *
      rcases HE1.out with h0 | ⟨c, o, rfl, h5, h6, h7⟩
      · subst h0
        refine (markC_nil (z + 1)).mono ?_
        rintro e w2 ⟨rfl, rfl⟩
        go_wp2
        go_roundw
        · exact ⟨j + 1, z + 1, by go_num, rfl, by omega, ⟨by omega, by push_cast; omega⟩, HW1.out, HM1.out⟩
        · simp [intOf]; omega
      · refine (markC_any h7 (fun o => HF1.out c o (by omega) h6) (z + 1) ⟨by omega, by omega⟩ hcl).mono ?_
        rintro e w2 ⟨rfl, _, hmu, hke⟩
        have HW2 := hide (HW1.out.step hke (fun o v _ hc => hmu.box (by omega) hc))
        have HM2 := hide (HM1.out.tr (hmu.mIn (lo := b) (hi := hi) (by omega) h6 hsz1))
        clear hmu hke
        go_wp2
        go_roundw
        · exact ⟨j + 1, _, by go_num, rfl, by omega, ⟨by omega, by push_cast; omega⟩, HW2.out, HM2.out⟩
        · simp [intOf]; omega
    · have hjj : j = ss.length := by omega
      subst hjj
      go_wp2
      go_ret
      exact ⟨⟨z, rfl, hz.1, by omega⟩, HM.out⟩
set_option maxRecDepth 100000 in
set_option maxHeartbeats 1000000 in
theorem markI_any {w : World} {b off cap : Nat} {xs : List Int} (h : Row w b off xs) (hf : ∀ o, w.frozen? ⟨b, o, none⟩ = false) (k : Int) (hk : 0 ≤ k ∧ k ≤ 1000000000000000) (hl : xs.length ≤ 1000000000000) :
    Calls Tryz.prog 93 #[.slice (some ⟨b, off, none⟩) xs.length cap, .int .i64 k] w fun e w' => e = .returned (.int .i64 (k + xs.length)) ∧ Row w' b off (counted xs.length k) ∧ Mut b w w' := by
  have H := hide h
  clear h
  go_enter Tryz.func93, Tryz.ntmps93
  go_wp2
  go_loopw [1, 5] (fun m i wr => ∃ j : Nat, i = .int .i64 j ∧ m = .int .i64 (k + j) ∧ j ≤ xs.length ∧ Row wr b off (marked xs k j) ∧ Mut b w wr) (fun m i _ => xs.length - (intOf i).toNat)
  case atStart => exact ⟨0, rfl, by simp, by omega, by rw [marked_zero]; exact H.out, Mut.refl _ _⟩
  case round =>
    obtain ⟨j, rfl, rfl, hj, hr, hm⟩ := hrel
    have HR := hide hr
    have HM := hide hm
    clear hr hm
    by_cases hlt : j < xs.length
    · have hml : j < (marked xs k j).length := by rw [marked_len xs k j hj]; exact hlt
      have q0 := HR.out j hml
      have qf := (HM.out.fz ⟨b, off + j, none⟩).trans (hf _)
      have hj0 : (0 : Int) ≤ (j : Int) := Int.natCast_nonneg _
      have hj1 : (j : Int) < (xs.length : Int) := by omega
      have St := HR.out.set (k := j) hml (k + j)
      rw [marked_set xs k j hlt] at St
      have HSt := hide St
      clear St
      generalize (marked xs k j).getD j 0 = x at q0
      go_wp2
      go_roundw
      · exact ⟨j + 1, by go_num, by go_num, by omega, HSt.out, HM.out.setCell _ _⟩
      · simp [intOf]; omega
    · have hjj : j = xs.length := by omega
      subst hjj
      go_wp2
      go_ret
      refine ⟨rfl, ?_, HM.out⟩
      have := HR.out
      rw [marked_full] at this
      exact this

theorem Ext.ke {w w' : World} (x : Ext w w') : KE w w' := fun b o v h => ⟨v, x.box h⟩

set_option maxRecDepth 100000 in
set_option maxHeartbeats 1000000 in
theorem markHeap_any {w : World} {lo hi b cap : Nat} {ss : List St} (h : WRow w lo hi b 0 ss) (hb : b < lo) (hh : hi ≤ w.heap.size) (hbh : b < hi) (hf : ∀ c o, b ≤ c → c < hi → w.frozen? ⟨c, o, none⟩ = false) (hl : SL ss 1048576) :
    Calls Tryz.prog 15 #[.agg #[.slice (some ⟨b, 0, none⟩) ss.length cap], .int .i64 1] w fun e w' => (∃ r : Int, e = .returned (.int .i64 r) ∧ 0 ≤ r ∧ r ≤ 10000000000000) ∧ MIn b hi w w' := by
  have x0 : Ext w (w.alloc (.cells #[.slice (some ⟨b, 0, none⟩) ss.length cap] 34)) := (Ext.refl w).alloc _ _
  have hm := hide (markS_any (cap := cap) (h.step x0.ke (fun o v _ hc => x0.box hc)) hb (Nat.le_trans hh (Below.size x0.bl)) hbh (fun c o hc hc2 => (x0.fz _).trans (hf c o hc hc2)) hl 1 (by omega))
  have X0 := hide (x0.mIn (lo := b) (hi := hi) (by omega))
  clear x0 h hf hl
  go_enter Tryz.func15, Tryz.ntmps15
  go_wp2_with (go_at_call 49; refine hm.out.mono ?_; rintro e w2 ⟨⟨r, rfl, h0, h1⟩, hx⟩)
  go_ret
  exact ⟨⟨r, rfl, h0, by omega⟩, X0.out.tr hx⟩

set_option maxRecDepth 100000 in
set_option maxHeartbeats 1000000 in
theorem markView_any {w : World} {b c : Nat} {xs sv : List Int} (off : Int) (hx : Row w b 0 xs) (hs : Row w c 0 sv) (hbc : b < c) (hcs : c < w.heap.size) (hf : ∀ d o, b ≤ d → d ≤ c → w.frozen? ⟨d, o, none⟩ = false) (lx : xs.length ≤ 1048576) (ls : sv.length ≤ 1048576) (k : Int) (hk : 0 ≤ k ∧ k ≤ 10000000000000) :
    Calls Tryz.prog 50 #[.agg #[.slice (some ⟨b, 0, none⟩) xs.length xs.length, .slice (some ⟨c, 0, none⟩) sv.length sv.length, .int .i64 off], .int .i64 k] w fun e w' => (∃ r : Int, e = .returned (.int .i64 r) ∧ 0 ≤ r) ∧ MIn b (c + 1) w w' := by
  have x0 : Ext w (w.alloc (.cells #[.slice (some ⟨b, 0, none⟩) xs.length xs.length, .slice (some ⟨c, 0, none⟩) sv.length sv.length, .int .i64 off] 39)) := (Ext.refl w).alloc _ _
  have n1 := fun j => new_cell w #[.slice (some ⟨b, 0, none⟩) xs.length xs.length, .slice (some ⟨c, 0, none⟩) sv.length sv.length, .int .i64 off] 39 w.heap.size rfl j
  have C1 := hide (n1 1)
  have HX := hide (hx.ext x0)
  have HS := hide (hs.ext x0)
  have HF : Hid (∀ d o, b ≤ d → d ≤ c → (w.alloc (.cells #[.slice (some ⟨b, 0, none⟩) xs.length xs.length, .slice (some ⟨c, 0, none⟩) sv.length sv.length, .int .i64 off] 39)).frozen? ⟨d, o, none⟩ = false) := fun d o hd hd2 => (x0.fz _).trans (hf d o hd hd2)
  have X0 := hide (x0.mIn (lo := b) (hi := c + 1) (by omega))
  have hsz := Below.size x0.bl
  have hm := hide (markI_any (cap := xs.length) HX.out (fun o => HF.out b o (Nat.le_refl _) (by omega)) k ⟨hk.1, by omega⟩ (by omega))
  clear x0 n1 hx hs hf
  go_enter Tryz.func50, Tryz.ntmps50
  go_wp2_with fail
  generalize w.alloc (.cells #[.slice (some ⟨b, 0, none⟩) xs.length xs.length, .slice (some ⟨c, 0, none⟩) sv.length sv.length, .int .i64 off] 39) = W0 at *
  refine hm.out.mono ?_
  rintro e w1 ⟨rfl, _, hmu⟩
  have c1 := hmu.box (by omega) C1.out
  have HS1 := hide (HS.out.mut hmu (by omega))
  have X1 := hide (X0.out.tr (hmu.mIn (lo := b) (hi := c + 1) (Nat.le_refl _) (by omega) (by omega)))
  have F1 : Hid (∀ o, w1.frozen? ⟨c, o, none⟩ = false) := fun o => (hmu.fz _).trans (HF.out c o (by omega) (Nat.le_refl _))
  have hs1 := hmu.size
  clear hmu hm HX HS HF X0 C1
  go_wp2_with (go_at_call 93; refine (markI_any (cap := sv.length) HS1.out F1.out (k + xs.length) ⟨by omega, by omega⟩ (by omega)).mono ?_; rintro e w2 ⟨rfl, _, hmu2⟩)
  go_ret
  exact ⟨⟨_, rfl, by omega⟩, X1.out.tr (hmu2.mIn (lo := b) (hi := c + 1) (by omega) (by omega) (by omega))⟩

set_option maxRecDepth 100000 in
set_option maxHeartbeats 1000000 in
theorem markArray_any {w : World} {b c : Nat} {xs sv : List Int} (st off : Int) (hx : Row w b 0 xs) (hs : Row w c 0 sv) (hbc : b < c) (hcs : c < w.heap.size) (hf : ∀ d o, b ≤ d → d ≤ c → w.frozen? ⟨d, o, none⟩ = false) (lx : xs.length ≤ 1048576) (ls : sv.length ≤ 1048576) (k : Int) (hk : 0 ≤ k ∧ k ≤ 10000000000000) :
    Calls Tryz.prog 16 #[.agg #[.int .i64 st, .slice (some ⟨b, 0, none⟩) xs.length xs.length, .slice (some ⟨c, 0, none⟩) sv.length sv.length, .int .i64 off], .int .i64 k] w fun e w' => (∃ r : Int, e = .returned (.int .i64 r) ∧ 0 ≤ r) ∧ MIn b (c + 1) w w' := by
  have x0 : Ext w (w.alloc (.cells #[.int .i64 st, .slice (some ⟨b, 0, none⟩) xs.length xs.length, .slice (some ⟨c, 0, none⟩) sv.length sv.length, .int .i64 off] 41)) := (Ext.refl w).alloc _ _
  have hm := hide (markView_any off (hx.ext x0) (hs.ext x0) hbc (Nat.lt_of_lt_of_le hcs (Below.size x0.bl)) (fun d o hd hd2 => (x0.fz _).trans (hf d o hd hd2)) lx ls k hk)
  have X0 := hide (x0.mIn (lo := b) (hi := c + 1) (by omega))
  clear x0 hx hs hf
  go_enter Tryz.func16, Tryz.ntmps16
  go_wp2_with (go_at_call 50; refine hm.out.mono ?_; rintro e w2 ⟨⟨r, rfl, h0⟩, hx⟩)
  go_ret
  exact ⟨⟨r, rfl, h0⟩, X0.out.tr hx⟩
theorem OwnC.cv {w : World} {lo cap : Nat} {sa : Option Addr} {cs : List C3} (h : OwnC w lo sa cs) : CV w (.slice sa cs.length cap) cs := by
  refine ⟨sa, cap, rfl, ?_⟩
  rcases h with h | ⟨g, h1, h2, h3, _⟩
  · exact Or.inl h
  · exact Or.inr ⟨g, 0, h1, h3⟩
theorem OwnC.keep {w w' : World} {lo : Nat} {sa : Option Addr} {cs : List C3} (h : OwnC w lo sa cs) (x : Bel w w') : OwnC w' lo sa cs := by
  by_cases e : cs = []
  · exact Or.inl e
  · rcases h with h | ⟨g, h1, h2, h3, h4⟩
    · exact absurd h e
    · have hg := cell_lt (h3 0 (List.length_pos_iff.2 e)).1
      exact Or.inr ⟨g, h1, h2, h3.keep x, fun o => (Below.frozen x (p := ⟨g, o, none⟩) hg).trans (h4 o)⟩
theorem OwnC.mIn {w w' : World} {lo a b : Nat} {sa : Option Addr} {cs : List C3} (h : OwnC w lo sa cs) (x : MIn a b w w') (hb : b ≤ lo) : OwnC w' lo sa cs := by
  rcases h with h | ⟨g, h1, h2, h3, h4⟩
  · exact Or.inl h
  · exact Or.inr ⟨g, h1, h2, fun j hj => ⟨x.box _ _ _ (by omega) (h3 j hj).1, x.box _ _ _ (by omega) (h3 j hj).2.1, x.box _ _ _ (by omega) (h3 j hj).2.2⟩, fun o => (x.fz _).trans (h4 o)⟩
theorem Bel.mIn {w w1 w2 : World} {a b : Nat} (x : Bel w w1) (y : MIn a b w1 w2) (h : w.heap.size ≤ a) : Bel w w2 := Below.trans x (Below.mono y.bl h)
theorem readA_len (ss : List St) (st : Int) (xs sv : List Int) (off : Int) : (readA ss st xs sv off).length ≤ 1048576 := by
  unfold readA
  split
  · next h =>
    unfold readL
    rw [List.length_map]
    have := offs_len h.2.2.1
    omega
  · simp
theorem readA_good {ss : List St} (hg : SG ss) (st : Int) (xs sv : List Int) (off : Int) : CG (readA ss st xs sv off) := fun c hc => by
  unfold readA at hc
  split at hc
  · next h =>
    unfold readL at hc
    obtain ⟨p, hp, rfl⟩ := List.mem_map.1 hc
    have h1 := (offs_in h.2.2.1 p hp).1
    have h2 := h.2.2.2 p hp
    have h3 := h.2.1
    exact (hg.at st.toNat (by omega)).at p.toNat (by omega)
  · cases hc
theorem markG_any {w : World} {lo cap : Nat} {sa : Option Addr} {cs : List C3} (h : OwnC w lo sa cs) (hl : cs.length ≤ 1048576) (hlo : lo ≤ w.heap.size) :
    Calls Tryz.prog 92 #[.slice sa cs.length cap, .int .i64 1] w fun e w' => e = .returned (.int .i64 (1 + 3 * cs.length)) ∧ CV w' (.slice sa cs.length cap) (ccount cs.length 1) ∧ Below lo w w' := by
  rcases h with rfl | ⟨g, rfl, h2, h3, h4⟩
  · refine (markC_nil 1).mono ?_
    rintro e w' ⟨rfl, rfl⟩
    exact ⟨rfl, ⟨sa, cap, rfl, Or.inl rfl⟩, Below.refl _ _⟩
  · refine (markC_any h3.ex h4 1 (by omega) hl).mono ?_
    rintro e w' ⟨rfl, hr, hm, _⟩
    exact ⟨rfl, ⟨_, cap, by rw [ccount_len], Or.inr ⟨g, 0, rfl, hr⟩⟩, ⟨hm.os, hm.tape, hm.output, hm.size, fun k hk => hm.block k (by omega) (by omega)⟩⟩
theorem MIn.lower {a b hi : Nat} {w w' : World} (x : MIn b hi w w') (h : a ≤ b) : MIn a hi w w' := ⟨Below.mono x.bl h, fun k o v hk hc => x.box k o v (by omega) hc, x.fz⟩
set_option maxRecDepth 100000 in
set_option maxHeartbeats 1000000 in
theorem markS_nil {w : World} {sa : Option Addr} {cap : Nat} (k : Int) :
    Calls Tryz.prog 49 #[.slice sa 0 cap, .int .i64 k] w fun e w' => e = .returned (.int .i64 k) ∧ w' = w := by
  go_enter Tryz.func49, Tryz.ntmps49
  go_wp2
  go_loopw [1, 5] (fun m i wr => i = .int .i64 0 ∧ m = .int .i64 k ∧ wr = w) (fun m i _ => 0)
  case atStart => exact ⟨rfl, rfl, rfl⟩
  case round =>
    obtain ⟨rfl, rfl, rfl⟩ := hrel
    go_wp2
    go_ret
    exact ⟨rfl, rfl⟩
set_option maxRecDepth 100000 in
set_option maxHeartbeats 1000000 in
theorem markHeap_two {w : World} {a hi b cap : Nat} {ss : List St} (h : WRow w (b + 1) hi b 0 ss) (ha : a ≤ b) (haw : a ≤ w.heap.size) (hh : hi ≤ w.heap.size) (hbh : ss = [] ∨ b < hi) (hf : ∀ c o, b ≤ c → c < hi → w.frozen? ⟨c, o, none⟩ = false) (hl : SL ss 1048576) :
    Calls Tryz.prog 15 #[.agg #[.slice (some ⟨b, 0, none⟩) ss.length cap], .int .i64 1] w fun e w' => (∃ r : Int, e = .returned (.int .i64 r) ∧ 0 ≤ r ∧ r ≤ 10000000000000) ∧ MIn a hi w w' := by
  rcases hbh with rfl | hbh
  · have X0 := hide (((Ext.refl w).alloc #[.slice (some ⟨b, 0, none⟩) (0 : Nat) cap] 34).mIn (lo := a) (hi := hi) haw)
    clear h hf hl
    show Calls Tryz.prog 15 #[.agg #[.slice (some ⟨b, 0, none⟩) 0 cap], .int .i64 1] w _
    go_enter Tryz.func15, Tryz.ntmps15
    go_wp2_with (go_at_call 49; refine (markS_nil 1).mono ?_; rintro e w2 ⟨rfl, rfl⟩)
    go_ret
    exact ⟨⟨1, rfl, by omega, by omega⟩, X0.out⟩
  · refine (markHeap_any h (by omega) hh hbh hf hl).mono ?_
    rintro e w' ⟨h1, h2⟩
    exact ⟨h1, h2.lower ha⟩
/-- The number that store j is marked with. -/
def kAt (ss : List St) (k : Int) : Nat → Int
  | 0 => k
  | j + 1 => kAt ss k j + 1 + 3 * (ss.getD j s0).2.length
theorem kAt_bd (ss : List St) (hl : SL ss 1048576) (k : Int) (hk : 0 ≤ k ∧ k ≤ 1000) (j : Nat) (hj : j ≤ ss.length) : 0 ≤ kAt ss k j ∧ kAt ss k j ≤ 1000 + 4194304 * (j : Int) := by
  induction j with
  | zero => exact ⟨hk.1, by show k ≤ _; omega⟩
  | succ j ih =>
    have h1 := ih (by omega)
    have h2 := hl.at j (by omega)
    show 0 ≤ kAt ss k j + 1 + 3 * ((ss.getD j s0).2.length : Int) ∧ kAt ss k j + 1 + 3 * ((ss.getD j s0).2.length : Int) ≤ _
    omega
/-- Store j, marked. -/
def mkd (ss : List St) (k : Int) (j : Nat) : St := (kAt ss k j, ccount (ss.getD j s0).2.length (kAt ss k j + 1))
/-- The first j stores are marked. -/
def mkdN (ss : List St) (k : Int) (j : Nat) : List St := (List.range ss.length).map fun i => if i < j then mkd ss k i else ss.getD i s0
theorem mkdN_len (ss : List St) (k : Int) (j : Nat) : (mkdN ss k j).length = ss.length := by simp [mkdN]
theorem mkdN_at (ss : List St) (k : Int) (j i : Nat) (hi : i < ss.length) : (mkdN ss k j).getD i s0 = if i < j then mkd ss k i else ss.getD i s0 := by
  unfold mkdN
  rw [List.getD_eq_getElem?_getD, List.getElem?_map, List.getElem?_range hi]; rfl
theorem mkdN_zero (ss : List St) (k : Int) : mkdN ss k 0 = ss := by
  refine List.ext_getElem (mkdN_len ss k 0) fun i h1 h2 => ?_
  have h := mkdN_at ss k 0 i h2
  rw [if_neg (by omega)] at h
  rw [List.getD_eq_getElem?_getD, List.getElem?_eq_getElem h1, List.getD_eq_getElem?_getD, List.getElem?_eq_getElem h2] at h
  exact h
theorem mkdN_clen (ss : List St) (k : Int) (j i : Nat) (hi : i < ss.length) : ((mkdN ss k j).getD i s0).2.length = (ss.getD i s0).2.length := by
  rw [mkdN_at ss k j i hi]
  split
  · exact ccount_len ..
  · rfl
theorem HOwn.mark {W W2 : World} {lo g : Nat} {cb : Nat → Nat} {ss : List St} {k : Int} {j : Nat} (h : HOwn W lo g cb (mkdN ss k j)) (hj : j < ss.length) (hw : ∀ c, c < W.heap.size → c ≠ g → ((ss.getD j s0).2 ≠ [] → c ≠ cb j) → W2.heap[c]? = W.heap[c]?) (hg : ∀ o x, o ≠ j * 2 → W.cell? ⟨g, o, none⟩ = some x → W2.cell? ⟨g, o, none⟩ = some x) (hgj : W2.cell? ⟨g, j * 2, none⟩ = some (.int .i64 (kAt ss k j)))
    (hr : (ss.getD j s0).2 ≠ [] → CRow W2 (cb j) 0 (ccount (ss.getD j s0).2.length (kAt ss k j + 1))) (hf : ∀ a, W2.frozen? a = W.frozen? a) (hs : W.heap.size ≤ W2.heap.size) : HOwn W2 lo g cb (mkdN ss k (j + 1)) := by
  have hnil : ∀ i, i < ss.length → (((mkdN ss k (j + 1)).getD i s0).2 ≠ [] ↔ (ss.getD i s0).2 ≠ []) := fun i hi => by rw [ne_eq, ne_eq, nil_len, nil_len, mkdN_clen _ _ _ _ hi]
  have hnil' : ∀ i, i < ss.length → (((mkdN ss k j).getD i s0).2 ≠ [] ↔ (ss.getD i s0).2 ≠ []) := fun i hi => by rw [ne_eq, ne_eq, nil_len, nil_len, mkdN_clen _ _ _ _ hi]
  have hsame : ∀ i, i < ss.length → i ≠ j → (mkdN ss k (j + 1)).getD i s0 = (mkdN ss k j).getD i s0 := fun i hi hij => by
    rw [mkdN_at _ _ _ _ hi, mkdN_at _ _ _ _ hi]
    by_cases q : i < j
    · rw [if_pos q, if_pos (by omega)]
    · rw [if_neg q, if_neg (by omega)]
  have hnew : (mkdN ss k (j + 1)).getD j s0 = mkd ss k j := by rw [mkdN_at _ _ _ _ hj, if_pos (by omega)]
  have hm := mkdN_len ss k j
  refine ⟨fun i hi => ?_, fun i hi => ?_, fun i hi hne => ?_, fun o => (hf _).trans (h.fz o), fun i hi hne o => (hf _).trans (h.fzr i (by rw [mkdN_len] at hi ⊢; exact hi) ?_ o), h.lo_g, Nat.lt_of_lt_of_le h.g_lt hs, fun i hi hne => ?_, fun i i' hii hi' hn1 hn2 => ?_⟩
  · rw [mkdN_len] at hi
    by_cases e : i = j
    · subst e; rw [hnew]; exact hgj
    · rw [hsame i hi e]; exact hg _ _ (by omega) (h.dt i (by rw [mkdN_len]; exact hi))
  · rw [mkdN_len] at hi
    obtain ⟨sa, cap, q1, q2⟩ := h.sl i (by rw [mkdN_len]; exact hi)
    refine ⟨sa, cap, ?_, ?_⟩
    · rw [mkdN_clen _ _ _ _ hi]
      rw [mkdN_clen _ _ _ _ hi] at q1
      exact hg _ _ (by omega) q1
    · rcases q2 with q2 | q2
      · exact Or.inl (by rw [nil_len, mkdN_clen _ _ _ _ hi]; rw [nil_len, mkdN_clen _ _ _ _ hi] at q2; exact q2)
      · exact Or.inr q2
  · rw [mkdN_len] at hi
    by_cases e : i = j
    · subst e
      rw [hnew]
      exact hr ((hnil i hi).1 hne)
    · rw [hsame i hi e]
      have hne' : ((mkdN ss k j).getD i s0).2 ≠ [] := (hnil' i hi).2 ((hnil i hi).1 hne)
      have hgc := h.g_cb i (by rw [mkdN_len]; exact hi) hne'
      have hrr := h.row i (by rw [mkdN_len]; exact hi) hne'
      have hb : W2.heap[cb i]? = W.heap[cb i]? := hw (cb i) (cell_lt (hrr 0 (List.length_pos_iff.2 hne')).1) (by omega) (fun hnj q => by
        have hnj' := (hnil' j hj).2 hnj
        rcases Nat.lt_or_gt_of_ne e with z | z
        · have := h.inc i j z (by rw [mkdN_len]; exact hj) hne' hnj'; omega
        · have := h.inc j i z (by rw [mkdN_len]; exact hi) hnj' hne'; omega)
      exact fun y hy => ⟨(World.cell?_of_block (w := W) (a := ⟨cb i, _, none⟩) hb).trans (hrr y hy).1, (World.cell?_of_block (w := W) (a := ⟨cb i, _, none⟩) hb).trans (hrr y hy).2.1, (World.cell?_of_block (w := W) (a := ⟨cb i, _, none⟩) hb).trans (hrr y hy).2.2⟩
  · rw [mkdN_len] at hi
    exact (hnil' i hi).2 ((hnil i hi).1 hne)
  · rw [mkdN_len] at hi
    exact h.g_cb i (by rw [mkdN_len]; exact hi) ((hnil' i hi).2 ((hnil i hi).1 hne))
  · rw [mkdN_len] at hi'
    exact h.inc i i' hii (by rw [mkdN_len]; exact hi') ((hnil' i (by omega)).2 ((hnil i (by omega)).1 hn1)) ((hnil' i' hi').2 ((hnil i' hi').1 hn2))

set_option maxRecDepth 100000 in
set_option maxHeartbeats 2000000 in
theorem markS_own {w : World} {lo g cap : Nat} {cb : Nat → Nat} {ss : List St} (h : HOwn w lo g cb ss) (hl : SL ss 1048576) (k : Int) (hk : 0 ≤ k ∧ k ≤ 1000) :
    Calls Tryz.prog 49 #[.slice (some ⟨g, 0, none⟩) ss.length cap, .int .i64 k] w fun e w' => e = .returned (.int .i64 (kAt ss k ss.length)) ∧ HOwn w' lo g cb (mkdN ss k ss.length) ∧ Below lo w w' := by
  have H := hide h
  have HL := hide hl
  have hl1 := hl.1
  clear h hl
  go_enter Tryz.func49, Tryz.ntmps49
  go_wp2
  go_loopw [1, 5] (fun m i wr => ∃ j : Nat, i = .int .i64 j ∧ m = .int .i64 (kAt ss k j) ∧ j ≤ ss.length ∧ HOwn wr lo g cb (mkdN ss k j) ∧ Below lo w wr) (fun m i _ => ss.length - (intOf i).toNat)
  case atStart => exact ⟨0, rfl, rfl, by omega, by rw [mkdN_zero]; exact H.out, Below.refl _ _⟩
  case round =>
    obtain ⟨j, rfl, rfl, hj, hO, hB⟩ := hrel
    have HO := hide hO
    have HB := hide hB
    clear hO hB
    by_cases hlt : j < ss.length
    · have hjm : j < (mkdN ss k j).length := by rw [mkdN_len]; exact hlt
      have q0 := HO.out.dt j hjm
      obtain ⟨sa, cp, q1, q2⟩ := HO.out.sl j hjm
      rw [mkdN_clen _ _ _ _ hlt] at q1
      have qf := HO.out.fz (j * 2)
      have hj0 : (0 : Int) ≤ (j : Int) := Int.natCast_nonneg _
      have hj1 : (j : Int) < (ss.length : Int) := by omega
      have hcl := HL.out.at j hlt
      have hkb := kAt_bd ss HL.out k hk j hj
      have hkn : Hid (kAt ss k (j + 1) = kAt ss k j + 1 + 3 * (ss.getD j s0).2.length) := rfl
      have hlg := HO.out.lo_g
      have hgl := HO.out.g_lt
      have ne : ∀ {a b : Nat} {W : World} {u : Value}, a ≠ b → (W.setCell ⟨g, a, none⟩ u).cell? ⟨g, b, none⟩ = W.cell? ⟨g, b, none⟩ := fun {a b W u} h => World.cell?_setCell_other _ _ _ _ (by intro e; simp only [Addr.mk.injEq] at e; omega)
      have p1 : (wr.setCell ⟨g, j * 2, none⟩ (.int .i64 (kAt ss k j))).cell? ⟨g, j * 2 + 1, none⟩ = some (.slice sa (ss.getD j s0).2.length cp) := (ne (by omega)).trans q1
      generalize hkk : kAt ss k j = kj at *
      by_cases hne : (ss.getD j s0).2 = []
      · have hlen0 : (ss.getD j s0).2.length = 0 := by rw [hne]; rfl
        rw [hlen0] at p1 q1 hkn
        have HN : Hid (HOwn (wr.setCell ⟨g, j * 2, none⟩ (.int .i64 kj)) lo g cb (mkdN ss k (j + 1))) := HO.out.mark hlt (fun c _ hc _ => Below.heap_setCell _ _ _ _ hc) (fun o x ho hx => (ne (Ne.symm ho)).trans hx) (by rw [hkk]; exact World.cell?_setCell_same _ _ _ q0) (fun q => absurd hne q) (fun a => World.frozen?_setCell _ _ _ _) (by simp [World.setCell])
        have HBN : Hid (Below lo w (wr.setCell ⟨g, j * 2, none⟩ (.int .i64 kj))) := HB.out.setCell (p := ⟨g, j * 2, none⟩) hlg _
        clear ne
        go_wp2_with (go_at_call 92; refine (markC_nil (kj + 1)).mono ?_; rintro e w2 ⟨rfl, rfl⟩)
        refine ⟨⟨j + 1, by go_num, by rw [hkn.out]; simp, by omega, HN.out, HBN.out⟩, ?_⟩
        simp [intOf]; omega
      · have hnem : ((mkdN ss k j).getD j s0).2 ≠ [] := fun e => hne (by rw [nil_len, mkdN_clen _ _ _ _ hlt] at e; rw [nil_len]; exact e)
        obtain rfl := q2.resolve_left hnem
        have hrow := HO.out.row j hjm hnem
        have hgc := HO.out.g_cb j hjm hnem
        have hfr := HO.out.fzr j hjm hnem
        have hex : Ex (wr.setCell ⟨g, j * 2, none⟩ (.int .i64 kj)) (cb j) 0 (ss.getD j s0).2.length := by
          have q := hrow.ex.ke ((KE.refl wr).set ⟨g, j * 2, none⟩ (.int .i64 kj))
          rw [mkdN_clen _ _ _ _ hlt] at q
          exact q
        have HMC := hide (markC_any (cap := cp) hex (fun o => by rw [World.frozen?_setCell]; exact hfr o) (kj + 1) ⟨by omega, by omega⟩ hcl)
        have hcs : Hid (∀ (n : Nat), n = (ss.getD j s0).2.length → True) := fun _ _ => trivial
        generalize hW1 : wr.setCell ⟨g, j * 2, none⟩ (.int .i64 kj) = W1 at *
        have HST : Hid (∀ w2, CRow w2 (cb j) 0 (ccount (ss.getD j s0).2.length (kj + 1)) → Mut (cb j) W1 w2 → HOwn w2 lo g cb (mkdN ss k (j + 1)) ∧ Below lo w w2) := fun w2 hr hm => by
          have hbk : ∀ c, c ≠ g → W1.heap[c]? = wr.heap[c]? := fun c hc => by rw [← hW1]; exact Below.heap_setCell _ _ _ _ hc
          have hs1 : W1.heap.size = wr.heap.size := by rw [← hW1]; simp [World.setCell]
          have hg2 : w2.heap[g]? = W1.heap[g]? := hm.block g (by omega) (by omega)
          have hc2 : ∀ o, w2.cell? ⟨g, o, none⟩ = W1.cell? ⟨g, o, none⟩ := fun o => World.cell?_of_block (w := W1) (a := ⟨g, o, none⟩) hg2
          refine ⟨HO.out.mark hlt (fun c hcl2 hc hc2 => ?_) (fun o x ho hx => ?_) ?_ (fun _ => by rw [hkk]; exact hr) (fun a => (hm.fz a).trans (by rw [← hW1, World.frozen?_setCell])) (by have := hm.size; omega), ?_⟩
          · exact (hm.block c (by omega) (hc2 hne)).trans (hbk c hc)
          · rw [hc2 o, ← hW1, ne (Ne.symm ho)]; exact hx
          · rw [hc2, hkk, ← hW1, World.cell?_setCell_same _ _ _ q0]
          · have hB1 : Below lo w W1 := by rw [← hW1]; exact HB.out.setCell (p := ⟨g, j * 2, none⟩) hlg _
            exact hB1.trans ⟨hm.os, hm.tape, hm.output, hm.size, fun c hc => hm.block c (by have := hB1.size; omega) (by omega)⟩
        clear ne hex hcs
        generalize (ss.getD j s0).2 = cs at p1 q1 HMC HST hkn hcl hne
        go_wp2_with (go_at_call 92; (try rw [hW1]); refine HMC.out.mono ?_; rintro e w2 ⟨rfl, hr2, hm2, _⟩; have H2 := hide (HST.out w2 hr2 hm2); clear hr2 hm2)
        refine ⟨⟨j + 1, by go_num, by rw [hkn.out], by omega, H2.out.1, H2.out.2⟩, ?_⟩
        simp [intOf]; omega
    · have hjj : j = ss.length := by omega
      subst hjj
      go_wp2
      go_ret
      exact ⟨rfl, HO.out, HB.out⟩
set_option maxRecDepth 100000 in
set_option maxHeartbeats 2000000 in
theorem heldS_any {w : World} {v : Value} {ss : List St} (k : Int) (h : SV w v (mkdN ss k ss.length)) (hl : SL ss 1048576) (hk : 0 ≤ k ∧ k ≤ 1000) :
    Calls Tryz.prog 94 #[v, .int .i64 k] w fun e w' => e = .returned (.int .i64 (kAt ss k ss.length)) ∧ Ext w w' := by
  obtain ⟨sa, cap, rfl, hx⟩ := h
  rw [mkdN_len]
  have HX := hide hx
  have hl1 := hl.1
  have HL := hide hl
  clear hx hl
  go_enter Tryz.func94, Tryz.ntmps94
  go_wp2
  go_loopw [1, 5] (fun m i wr => ∃ j : Nat, i = .int .i64 j ∧ m = .int .i64 (kAt ss k j) ∧ j ≤ ss.length ∧ Ext w wr) (fun m i _ => ss.length - (intOf i).toNat)
  case atStart => exact ⟨0, rfl, rfl, by omega, Ext.refl w⟩
  case round =>
    obtain ⟨j, rfl, rfl, hj, hw⟩ := hrel
    have HW := hide hw
    by_cases hlt : j < ss.length
    · obtain ⟨b, off, rfl, hrow⟩ := HX.out.resolve_left (fun e => by have e2 : (mkdN ss k ss.length).length = 0 := (by rw [e]; rfl); rw [mkdN_len] at e2; omega)
      obtain ⟨q0, u, q1, q2⟩ := (hrow.keep hw.bl) j (by rw [mkdN_len]; exact hlt)
      rw [mkdN_at _ _ _ _ hlt, if_pos hlt] at q0 q2
      have hkb := kAt_bd ss HL.out k hk j hj
      have hcl := HL.out.at j hlt
      have hkn : Hid (kAt ss k (j + 1) = kAt ss k j + 1 + 3 * (ss.getD j s0).2.length) := rfl
      have HC := hide (heldC_any (kAt ss k j + 1) (n := (ss.getD j s0).2.length) q2 ⟨by omega, by omega⟩ hcl)
      obtain ⟨su, cu, rfl, _⟩ := q2
      change wr.cell? ⟨b, off + j * 2, none⟩ = some (.int .i64 (kAt ss k j)) at q0
      change wr.cell? ⟨b, off + j * 2 + 1, none⟩ = some (.slice su (ccount (ss.getD j s0).2.length (kAt ss k j + 1)).length cu) at q1
      have hcc : (mkd ss k j).2.length = (ss.getD j s0).2.length := ccount_len ..
      rw [ccount_len] at q1
      change Hid (Calls Tryz.prog 127 #[.slice su (ccount (ss.getD j s0).2.length (kAt ss k j + 1)).length cu, .int .i64 (kAt ss k j + 1)] wr _) at HC
      rw [ccount_len] at HC
      generalize (ss.getD j s0).2.length = nl at q1 HC hkn hcl hcc
      generalize hkj : kAt ss k j = kj at q0 HC hkn hkb ⊢
      have hj0 : (0 : Int) ≤ (j : Int) := Int.natCast_nonneg _
      have hj1 : (j : Int) < (ss.length : Int) := by omega
      clear hrow hw hcc
      go_wp2_with (go_at_call 127; refine HC.out.mono ?_; rintro e w2 ⟨rfl, x2⟩; have X2 := hide (HW.out.trans x2); have hpos : decide (kj + 1 + 3 * (nl : Int) < 0) = false := decide_eq_false (by omega); clear x2)
      refine ⟨⟨j + 1, by go_num, by rw [hkn.out], by omega, X2.out⟩, ?_⟩
      simp [intOf]; omega
    · have hjj : j = ss.length := by omega
      subst hjj
      go_wp2
      go_ret
      exact ⟨rfl, HW.out⟩
/-- The answer's heap lies in memory of its own. -/
def MOwn (w : World) (lo : Nat) (v : Value) (ss : List St) : Prop := (ss = [] ∧ v = .slice none 0 0) ∨ ∃ g cap cb, v = .slice (some ⟨g, 0, none⟩) ss.length cap ∧ HOwn w lo g cb ss
theorem MOwn.sv {w : World} {lo : Nat} {v : Value} {ss : List St} (h : MOwn w lo v ss) : SV w v ss := by
  rcases h with ⟨rfl, rfl⟩ | ⟨g, cap, cb, rfl, h⟩
  · exact ⟨none, 0, rfl, Or.inl rfl⟩
  · exact h.sv
theorem MOwn.keep {w w' : World} {lo : Nat} {v : Value} {ss : List St} (h : MOwn w lo v ss) (hb : ∀ b, lo ≤ b → b < w.heap.size → w'.heap[b]? = w.heap[b]?) (hs : w.heap.size ≤ w'.heap.size) : MOwn w' lo v ss :=
  h.imp id fun ⟨g, cap, cb, e, q⟩ => ⟨g, cap, cb, e, q.keep hb hs⟩
theorem MOwn.lower {w : World} {lo lo' : Nat} {v : Value} {ss : List St} (h : MOwn w lo v ss) (hl : lo' ≤ lo) : MOwn w lo' v ss := h.imp id fun ⟨g, cap, cb, e, q⟩ => ⟨g, cap, cb, e, q.lower hl⟩

set_option maxRecDepth 100000 in
set_option maxHeartbeats 2000000 in
theorem markHeap_none (w : World) (k : Int) :
    Calls Tryz.prog 15 #[.agg #[.slice none 0 0], .int .i64 k] w fun e w' => e = .returned (.int .i64 k) ∧ Ext w w' := by
  have X1 : Hid (Ext w (w.alloc (.cells #[.slice none 0 0] 34))) := (Ext.refl w).alloc _ _
  go_enter Tryz.func15, Tryz.ntmps15
  go_wp2_with (go_at_call 49; refine (markS_nil k).mono ?_; rintro e w2 ⟨rfl, rfl⟩)
  go_ret
  exact ⟨rfl, X1.out⟩

set_option maxRecDepth 100000 in
set_option maxHeartbeats 2000000 in
theorem markHeap_own {w : World} {lo g cap : Nat} {cb : Nat → Nat} {ss : List St} (h : HOwn w lo g cb ss) (hl : SL ss 1048576) (hlo : lo ≤ w.heap.size) :
    Calls Tryz.prog 15 #[.agg #[.slice (some ⟨g, 0, none⟩) ss.length cap], .int .i64 1] w fun e w' => e = .returned (.int .i64 (kAt ss 1 ss.length)) ∧ HOwn w' lo g cb (mkdN ss 1 ss.length) ∧ Below lo w w' := by
  have x1 : Ext w (w.alloc (.cells #[.slice (some ⟨g, 0, none⟩) ss.length cap] 34)) := (Ext.refl w).alloc _ _
  have HM := hide (markS_own (cap := cap) (h.keep (fun b _ hb => x1.bl.block b hb) x1.bl.size) hl 1 (by omega))
  have X1 : Hid (Below lo w (w.alloc (.cells #[.slice (some ⟨g, 0, none⟩) ss.length cap] 34))) := (Below.refl _ _).alloc hlo _
  clear h x1
  go_enter Tryz.func15, Tryz.ntmps15
  go_wp2_with (go_at_call 49; refine HM.out.mono ?_; rintro e w2 ⟨rfl, h2, b2⟩; have H2 := hide h2; have B2 := hide (X1.out.trans b2); clear h2 b2)
  go_ret
  exact ⟨rfl, H2.out, B2.out⟩

set_option maxRecDepth 100000 in
set_option maxHeartbeats 2000000 in
theorem markHR_any {w : World} {lo : Nat} {v : Value} {ss : List St} (c : Int) (h : MOwn w lo v ss) (hl : SL ss 1048576) (hlo : lo ≤ w.heap.size) :
    Calls Tryz.prog 17 #[.agg #[.int .i64 c, v], .int .i64 1] w fun e w' => e = .returned (.int .i64 (kAt ss 1 ss.length)) ∧ SV w' v (mkdN ss 1 ss.length) ∧ Below lo w w' := by
  rcases h with ⟨rfl, rfl⟩ | ⟨g, cap, cb, rfl, h⟩
  · have X1 : Hid (Below lo w (w.alloc (.cells #[.int .i64 c, .slice none 0 0] 36))) := (Below.refl _ _).alloc hlo _
    go_enter Tryz.func17, Tryz.ntmps17
    go_wp2_with (go_at_call 15; refine (markHeap_none _ _).mono ?_; rintro e w2 ⟨rfl, x2⟩; have B2 := hide (X1.out.trans (x2.bl.mono (Nat.le_trans hlo X1.out.size))); clear x2)
    go_ret
    exact ⟨rfl, ⟨none, 0, rfl, Or.inl rfl⟩, B2.out⟩
  · have x1 : Ext w (w.alloc (.cells #[.int .i64 c, .slice (some ⟨g, 0, none⟩) ss.length cap] 36)) := (Ext.refl w).alloc _ _
    have X1 : Hid (Below lo w (w.alloc (.cells #[.int .i64 c, .slice (some ⟨g, 0, none⟩) ss.length cap] 36))) := (Below.refl _ _).alloc hlo _
    have HM := hide (markHeap_own (cap := cap) (h.keep (fun b _ hb => x1.bl.block b hb) x1.bl.size) hl (Nat.le_trans hlo x1.bl.size))
    clear h x1
    go_enter Tryz.func17, Tryz.ntmps17
    go_wp2_with (go_at_call 15; refine HM.out.mono ?_; rintro e w2 ⟨rfl, h2, b2⟩; have H2 := hide h2; have B2 := hide (X1.out.trans b2); clear h2 b2)
    go_ret
    have q := H2.out.sv (cap := cap)
    rw [mkdN_len] at q
    exact ⟨rfl, q, B2.out⟩

set_option maxRecDepth 100000 in
set_option maxHeartbeats 2000000 in
theorem heldHeap_any {w : World} {v : Value} {ss : List St} (h : SV w v (mkdN ss 1 ss.length)) (hl : SL ss 1048576) :
    Calls Tryz.prog 51 #[.agg #[v], .int .i64 1] w fun e w' => e = .returned (.int .i64 (kAt ss 1 ss.length)) ∧ Ext w w' := by
  obtain ⟨sa, cap, rfl, hx⟩ := h
  have h : SV w (.slice sa (mkdN ss 1 ss.length).length cap) (mkdN ss 1 ss.length) := ⟨sa, cap, rfl, hx⟩
  have x1 : Ext w (w.alloc (.cells #[.slice sa (mkdN ss 1 ss.length).length cap] 34)) := (Ext.refl w).alloc _ _
  have HM := hide (heldS_any 1 (h.keep x1.bl) hl (by omega))
  have X1 := hide x1
  have hkb := kAt_bd ss hl 1 (by omega) ss.length (Nat.le_refl _)
  have hl1 := hl.1
  have hd : decide (kAt ss 1 ss.length < 0) = false := decide_eq_false (by omega)
  generalize (mkdN ss 1 ss.length).length = ln at *
  generalize kAt ss 1 ss.length = kk at *
  clear h x1 hx
  go_enter Tryz.func51, Tryz.ntmps51
  go_wp2_with (go_at_call 94; refine HM.out.mono ?_; rintro e w2 ⟨rfl, x2⟩; have X2 := hide (X1.out.trans x2); clear x2)
  go_ret
  exact ⟨rfl, X2.out⟩

set_option maxRecDepth 100000 in
set_option maxHeartbeats 2000000 in
theorem heldHR_any {w : World} {v : Value} {ss : List St} (c : Int) (h : SV w v (mkdN ss 1 ss.length)) (hl : SL ss 1048576) :
    Calls Tryz.prog 18 #[.agg #[.int .i64 c, v], .int .i64 1] w fun e w' => e = .returned (.int .i64 (kAt ss 1 ss.length)) ∧ Ext w w' := by
  obtain ⟨sa, cap, rfl, hx⟩ := h
  have h : SV w (.slice sa (mkdN ss 1 ss.length).length cap) (mkdN ss 1 ss.length) := ⟨sa, cap, rfl, hx⟩
  have x1 : Ext w (w.alloc (.cells #[.int .i64 c, .slice sa (mkdN ss 1 ss.length).length cap] 36)) := (Ext.refl w).alloc _ _
  have HM := hide (heldHeap_any (h.keep x1.bl) hl)
  have X1 := hide x1
  have hkb := kAt_bd ss hl 1 (by omega) ss.length (Nat.le_refl _)
  have hl1 := hl.1
  have hd : decide (kAt ss 1 ss.length < 0) = false := decide_eq_false (by omega)
  generalize (mkdN ss 1 ss.length).length = ln at *
  generalize kAt ss 1 ss.length = kk at *
  clear h x1 hx
  go_enter Tryz.func18, Tryz.ntmps18
  go_wp2_with (go_at_call 51; refine HM.out.mono ?_; rintro e w2 ⟨rfl, x2⟩; have X2 := hide (X1.out.trans x2); clear x2)
  go_ret
  exact ⟨rfl, X2.out⟩

set_option maxRecDepth 100000 in
set_option maxHeartbeats 2000000 in
theorem eqHR_any {w : World} {v u : Value} {ss ts : List St} (c : Int) (h : SV w v ss) (g : SV w u ts) (hsm : SSm ss ts) (hg : SG ss) (hg2 : SG ts) (hl : SL ss 1048576) :
    Calls Tryz.prog 12 #[.agg #[.int .i64 c, v], .agg #[.int .i64 c, u]] w fun e w' => e = .returned (.bool true) ∧ Ext w w' := by
  obtain ⟨sa, cap, rfl, hx⟩ := h
  obtain ⟨ta, dap, rfl, hy⟩ := g
  have h : SV w (.slice sa ss.length cap) ss := ⟨sa, cap, rfl, hx⟩
  have g : SV w (.slice ta ts.length dap) ts := ⟨ta, dap, rfl, hy⟩
  have x1 : Ext w ((w.alloc (.cells #[.int .i64 c, .slice sa ss.length cap] 36)).alloc (.cells #[.int .i64 c, .slice ta ts.length dap] 36)) := ((Ext.refl w).alloc _ _).alloc _ _
  have HM := hide (eqHeap_sm (h.keep x1.bl) (g.keep x1.bl) hsm hg hg2 hl)
  have X1 := hide x1
  clear h g x1 hx hy hsm
  go_enter Tryz.func12, Tryz.ntmps12
  go_wp2_with (go_at_call 13; refine HM.out.mono ?_; rintro e w2 ⟨rfl, x2⟩; have X2 := hide (X1.out.trans x2); clear x2)
  go_ret
  exact ⟨rfl, X2.out⟩
/-- The system of impl.Solve in memory, in blocks of which P holds; no rows at n = 0. -/
def TS (P : Nat → Prop) (w : World) (n : Nat) (vA vB : Value) (s : Sys) : Prop :=
  (n = 0 ∧ vA = .slice none 0 0 ∧ ∃ v c, vB = .slice v 0 c) ∨
  (0 < n ∧ ∃ g cg h bs, vA = .slice (some ⟨g, 0, none⟩) n cg ∧ vB = .slice (some ⟨h, 0, none⟩) n n ∧ SysIn w g h n bs s ∧ P g ∧ P h ∧ ∀ i, i < n → P (bs.getD i 0))
theorem elimT {P : Nat → Prop} {w : World} {n : Nat} {vA vB : Value} {s t : Sys} (h : TS P w n vA vB s) (hst : SmS s t) (hn4 : n ≤ 4096) :
    Calls Tryz.prog 43 #[.agg #[vA, vB]] w fun e w' => MutP P w w' ∧ ((t.elim n = none ∧ e = .returned (.bool false)) ∨ ∃ s1 t1, e = .returned (.bool true) ∧ t.elim n = some t1 ∧ TS P w' n vA vB s1 ∧ SmS s1 t1) := by
  rcases h with ⟨rfl, rfl, v, c, rfl⟩ | ⟨hp, g, cg, h, bs, rfl, rfl, H, pg, ph, pb⟩
  · refine (eliminate_zero w v c).mono ?_
    rintro e w' ⟨rfl, x⟩
    exact ⟨x.mutP P, Or.inr ⟨s, t, rfl, rfl, Or.inl ⟨rfl, rfl, v, c, rfl⟩, hst⟩⟩
  · refine (eliminate_any (cg := cg) H hst hp hn4).mono ?_
    rintro e w' ⟨hM, hres⟩
    refine ⟨hM.mono (fun k hk => ?_), ?_⟩
    · rcases hk with rfl | rfl | ⟨i, hi, rfl⟩
      · exact pg
      · exact ph
      · exact pb i hi
    · rcases hres with ⟨h1, rfl⟩ | ⟨rfl, bs1, s1, t1, h1, h2, h3, h4⟩
      · exact Or.inl ⟨h1, rfl⟩
      · refine Or.inr ⟨s1, t1, rfl, h1, Or.inr ⟨hp, g, cg, h, bs1, rfl, rfl, h2, pg, ph, fun i hi => ?_⟩, h3⟩
        obtain ⟨j, hj, e⟩ := h4 i hi
        rw [e]
        exact pb j hj
theorem unkT {P : Nat → Prop} {w : World} {n : Nat} {vA vB : Value} {s t : Sys} (h : TS P w n vA vB s) (hst : SmS s t) (htn : t.1.length = n) (hn4 : n ≤ 4096) :
    Calls Tryz.prog 46 #[.agg #[vA, vB]] w fun e w' => ∃ (b : Nat) (X : List Nat), e = .returned (.slice (some ⟨b, 0, none⟩) n n) ∧ FRow w' b X ∧ X.length = n ∧ SmL X (t.back n) ∧ Ext w w' := by
  rcases h with ⟨rfl, rfl, v, c, rfl⟩ | ⟨hp, g, cg, h, bs, rfl, rfl, H, pg, ph, pb⟩
  · refine (unknowns_zero w v c).mono ?_
    rintro e w' ⟨⟨b, rfl, hf⟩, x⟩
    refine ⟨b, [], rfl, hf, rfl, ?_, x⟩
    have e0 : t.back 0 = [] := by show List.replicate t.1.length 0 = []; rw [htn]; rfl
    rw [e0]
    exact SmL.refl []
  · refine (unknowns_any (cg := cg) H hst hp hn4).mono ?_
    rintro e w' ⟨b, X, rfl, h1, h2, h3, h4, h5⟩
    exact ⟨b, X, rfl, h1, h2, h3, h4⟩
theorem SysIn.drew {w : World} {g h n : Nat} {bs : List Nat} {s : Sys} (H : SysIn w g h n bs s) : SysIn w.drew g h n bs s := ⟨H.sq, H.out, H.ofz, fun i hi => (H.row i hi).block rfl, H.rt.block rfl, H.nd, H.gb, H.hb, H.gh, H.len⟩
theorem TS.drew {P : Nat → Prop} {w : World} {n : Nat} {vA vB : Value} {s : Sys} (h : TS P w n vA vB s) : TS P w.drew n vA vB s := by
  rcases h with h | ⟨hp, g, cg, h, bs, e1, e2, H, pg, ph, pb⟩
  · exact Or.inl h
  · exact Or.inr ⟨hp, g, cg, h, bs, e1, e2, H.drew, pg, ph, pb⟩
theorem eachZ {ss : List St} {a b o : Ar} (hfit : fitB a b o = true) (hga : a.Good ss) (hgb : b.Good ss) (hz : solN b = 0) {P : Nat → Prop} {w0 w : World} {u : Value} {dt : Int} {sB hB : Nat} (hu : CV w u (ss.getD a.st.toNat s0).2)
    (x0 : Bel w0 w) (c0 : w.cell? ⟨sB, 0, none⟩ = some (.slice none 0 0)) (c1 : w.cell? ⟨sB, 1, none⟩ = some (.slice (some ⟨hB, 0, none⟩) (solN b) (solN b))) :
    Calls Tryz.prog 41 #[.agg #[.int .i64 a.xs.length, .int .i64 (a.xs.getD 0 0), .int .i64 (a.xs.getD 1 0), .int .i64 (a.xs.getD 2 0), .int .i64 (a.xs.getD 3 0), .int .i64 (a.sv.getD 0 0), .int .i64 (a.sv.getD 1 0), .int .i64 (a.sv.getD 2 0), .int .i64 (a.sv.getD 3 0), .int .i64 a.off, .int .i64 a.st, .int .i64 dt, u], .int .i64 1, .func (.func 42) #[] #[.pointer (some ⟨sB, 0, none⟩)]] w
      fun e w' => e = .returned (.tuple #[]) ∧ ∃ vA, w'.cell? ⟨sB, 0, none⟩ = some vA ∧ w'.cell? ⟨sB, 1, none⟩ = some (.slice (some ⟨hB, 0, none⟩) (solN b) (solN b)) ∧ TS P w' (solN b) vA (.slice (some ⟨hB, 0, none⟩) (solN b) (solN b)) (sys0 ss a b) ∧ Bel w0 w' := by
  obtain ⟨hsq, hal, hbl, hax, hbx, hox, hn4⟩ := sys0_sq hfit hga hgb
  have hsl := hga.2.1.2.1
  rw [hax] at hsl
  obtain ⟨t0, t1, hsv⟩ : ∃ t0 t1, a.sv = [t0, t1] := by
    match h : a.sv, hsl with
    | [t0, t1], _ => exact ⟨t0, t1, rfl⟩
  obtain ⟨su, cu, rfl, hcv⟩ := hu
  rw [hz] at c1 hax
  rw [hax, hsv, hz]
  refine (eachLane_zero w t0 t1 a.off a.st dt _ sB rfl su _ cu rfl).mono ?_
  rintro e w' ⟨rfl, x⟩
  exact ⟨rfl, _, x.box c0, x.box c1, Or.inl ⟨rfl, rfl, _, _, rfl⟩, Bel.tr x0 x.bl⟩
theorem eachT {ss : List St} {a b o : Ar} (hfit : fitB a b o = true) (hg : SG ss) (hl : SL ss 1048576) (hga : a.Good ss) (hgb : b.Good ss) {P : Nat → Prop} {w0 w : World} {u : Value} {dt : Int} {sB hB : Nat} {Bf : List Nat} (hu : CV w u (ss.getD a.st.toNat s0).2)
    (x0 : Bel w0 w) (hs0 : w0.heap.size ≤ sB) (c0 : w.cell? ⟨sB, 0, none⟩ = some (.slice none 0 0)) (c1 : w.cell? ⟨sB, 1, none⟩ = some (.slice (some ⟨hB, 0, none⟩) (solN b) (solN b))) (f0 : w.frozen? ⟨sB, 0, none⟩ = false)
    (hF : FRow w hB Bf) (hBf : (b.rd ss).map (·.2.1) = Bf) (hhs : hB < sB) (ph : P hB) (pn : ∀ c, w.heap.size ≤ c → P c) :
    Calls Tryz.prog 41 #[.agg #[.int .i64 a.xs.length, .int .i64 (a.xs.getD 0 0), .int .i64 (a.xs.getD 1 0), .int .i64 (a.xs.getD 2 0), .int .i64 (a.xs.getD 3 0), .int .i64 (a.sv.getD 0 0), .int .i64 (a.sv.getD 1 0), .int .i64 (a.sv.getD 2 0), .int .i64 (a.sv.getD 3 0), .int .i64 a.off, .int .i64 a.st, .int .i64 dt, u], .int .i64 1, .func (.func 42) #[] #[.pointer (some ⟨sB, 0, none⟩)]] w
      fun e w' => e = .returned (.tuple #[]) ∧ ∃ vA, w'.cell? ⟨sB, 0, none⟩ = some vA ∧ w'.cell? ⟨sB, 1, none⟩ = some (.slice (some ⟨hB, 0, none⟩) (solN b) (solN b)) ∧ TS P w' (solN b) vA (.slice (some ⟨hB, 0, none⟩) (solN b) (solN b)) (sys0 ss a b) ∧ Bel w0 w' := by
  obtain ⟨hsq, hal, hbl, hax, hbx, hox, hn4⟩ := sys0_sq hfit hga hgb
  have hsl := hga.2.1.2.1
  rw [hax] at hsl
  obtain ⟨t0, t1, hsv⟩ : ∃ t0 t1, a.sv = [t0, t1] := by
    match h : a.sv, hsl with
    | [t0, t1], _ => exact ⟨t0, t1, rfl⟩
  have hRd : a.rd ss = (offsL a.xs a.sv a.off).map fun p => (ss.getD a.st.toNat s0).2.getD p.toNat k0 := rfl
  have hlt := cell_lt c0
  obtain ⟨su, cu, rfl, hcv⟩ := hu
  have hcv2 : CV w (.slice su (ss.getD a.st.toNat s0).2.length cu) (ss.getD a.st.toNat s0).2 := ⟨su, cu, rfl, hcv⟩
  obtain ⟨n, hN⟩ : ∃ n, n = solN b := ⟨_, rfl⟩
  have hv := hga.2.1
  have hin := hga.2.2
  rw [hax, hsv, ← hN] at hv hin hRd
  rw [hRd] at hal
  rw [List.length_map, ← hN] at hal
  rw [hax, hsv, ← hN]
  rw [← hN] at c1 hn4 hsq
  have hst := hga.1
  rcases Nat.eq_zero_or_pos n with hz | hp
  · subst hz
    refine (eachLane_zero w t0 t1 a.off a.st dt _ sB rfl su _ cu rfl).mono ?_
    rintro e w' ⟨rfl, x⟩
    exact ⟨rfl, _, x.box c0, x.box c1, Or.inl ⟨rfl, rfl, _, _, rfl⟩, Bel.tr x0 x.bl⟩
  · refine (callsIn_wide.1 (eachLane_in 6 (Nat.le_refl _) n hp t0 t1 a.off a.st dt hcv2 (hl.at a.st.toNat (by omega)) hv hin hal (fun c hc => ((hg.at a.st.toNat (by omega)) c hc).2.1) c0 f0)).mono ?_
    rintro e w' ⟨rfl, g, cap, bs, R⟩
    rw [← hRd] at R
    refine ⟨rfl, _, R.box, R.r1 1 _ (by omega) c1, Or.inr ⟨hp, g, cap, hB, bs, rfl, rfl, ?_, pn _ R.glo, ph, fun i hi => pn _ (R.row i hi).2.2.1⟩, ?_⟩
    · have e3 : ∀ i, i < n → ((List.range n).map fun i => laneF (a.rd ss) n i).getD i [] = laneF (a.rd ss) n i := fun i hi => by rw [List.getD_eq_getElem?_getD, List.getElem?_map, List.getElem?_range hi]; rfl
      have hsy : sys0 ss a b = ((List.range n).map fun i => laneF (a.rd ss) n i, Bf) := by unfold sys0; rw [← hN, hBf]
      rw [hsy] at hsq ⊢
      refine ⟨hsq, R.out, R.ofz, fun i hi => ?_, ?_, fun i j hi hj hij => ?_, fun i hi => (R.row i hi).2.2.2, fun i hi => ?_, ?_, R.len⟩
      · show FRow w' _ (((List.range n).map fun i => laneF (a.rd ss) n i).getD i [])
        rw [e3 i hi]
        exact (R.row i hi).1
      · exact hF.block (R.bl.block hB hhs)
      · rcases Nat.lt_or_gt_of_ne hij with q | q
        · have := R.inc i j q hj; omega
        · have := R.inc j i q hi; omega
      · have := (R.row i hi).2.2.1; omega
      · have := R.glo; omega
    · exact Below.trans x0 (R.bl.mono hs0)
end Go.Proofs.YtfhcpicddegblaaGreat
namespace Go.Proofs.YtfhcpicddegblaaGreat
open Go.RowKit
set_option linter.unusedSimpArgs false
set_option linter.unusedVariables false
section
variable {P : Program} {ops : Array Oper} {Q : Exit → Act → World → Prop} {md : Region.Mode} {S : World → Prop} {late : List Nat}
/-- Several operations may come up. -/
theorem wpAnyU_more {rs : List Nat} {f : Nat} {l : Array Bool} {a : Act} {w : World} (hr : Region.ready md ops l = rs) (hne : rs ≠ [])
    (h : ∀ i ∈ rs, ∃ o, ops[i]? = some o ∧ ∀ K' : Act → World → Prop, Shut (∀ a w, (late.contains i = false → S w) → wpAnyU P md ops Q S late f (l.setIfInBounds i true) a w → K' a w) → if Region.wanted o (yielded ops a.tmps) = true then Oper.wp P o a w K' Q else K' (a.put o.dst undef) w) :
    wpAnyU P md ops Q S late (f + 1) l a w := by
  refine ⟨fun h0 => absurd (hr ▸ h0) hne, fun j hj => ?_⟩
  rw [hr] at hj
  obtain ⟨o, ho, hK⟩ := h j hj
  exact wpOp_step ho (fun K' hK' => hK K' (fun a w h1 h2 => hK' a w ⟨h1, h2⟩))
theorem wpAnyU_takeD {i d : Nat} {oi : Oper} {v : Value} (hi : ops[i]? = some oi) (hd : oi.dst = some d) (hs : Region.noSelect ops = true) (hl : (late.all (waitsFor md ops i)) = true)
    (hQ : ∀ c a w, Q (.panic c) (a.put oi.dst v) w → Q (.panic c) a w) (f : Nat) {l : Array Bool} {a : Act} {w : World}
    (h1 : Region.free md ops l i = true) (h2 : (Region.ready md ops l).contains i = true) (h3 : YieldsIf P ops S oi v a) (h4 : S w)
    (h : wpAnyU P md ops Q S late f (l.setIfInBounds i true) (a.put (some d) v) w) : wpAnyU P md ops Q S late (f + 1) l a w :=
  wpAnyU_take hi hs hl hQ f h1 h2 h3 h4 (by rw [hd]; exact h)
/-- A region that draws its order, with a relation for all that it leaves. -/
theorem region_w {id : Nat} {a : Act} {w : World} (R : Act → Act → World → Prop) (hm : P.follows .mixedOrders = true) (h2 : ∀ a' w', R a a' w' → Q .normal a' w')
    (h : wpAnyU P .any ops (fun e a' w' => e = .normal ∧ R a a' w') S late ops.size (Array.replicate ops.size false) a w.drew) : (Code.region id ops true).wp P Q a w :=
  Code.wp_mono (fun e a' w' h => by obtain ⟨rfl, h⟩ := h; exact h2 _ _ h) (wp_region_any hm (wpAny_of_U _ _ _ _ h))
end
/-- Values in the cells of a block, one behind the other. -/
def stL (w : World) (b : Nat) : Nat → List Value → World
  | _, [] => w
  | o, v :: vs => stL (w.setCell ⟨b, o, none⟩ v) b (o + 1) vs
theorem stL_block (w : World) (b o : Nat) (vs : List Value) (c : Nat) (h : c ≠ b) : (stL w b o vs).heap[c]? = w.heap[c]? := by
  induction vs generalizing w o with
  | nil => rfl
  | cons v vs ih => exact (ih _ _).trans (Below.heap_setCell _ _ _ _ h)
theorem stL_size (w : World) (b o : Nat) (vs : List Value) : (stL w b o vs).heap.size = w.heap.size := by
  induction vs generalizing w o with
  | nil => rfl
  | cons v vs ih => exact (ih _ _).trans (by simp [World.setCell])
theorem stL_below {lo : Nat} {A w : World} (h : Below lo A w) {b : Nat} (hb : lo ≤ b) (o : Nat) (vs : List Value) : Below lo A (stL w b o vs) := by
  induction vs generalizing w o with
  | nil => exact h
  | cons v vs ih => exact ih (h.setCell (p := ⟨b, o, none⟩) hb _) _
theorem stL_old (w : World) (b o : Nat) (vs : List Value) (q : Nat) (hq : q < o) : (stL w b o vs).cell? ⟨b, q, none⟩ = w.cell? ⟨b, q, none⟩ := by
  induction vs generalizing w o with
  | nil => rfl
  | cons v vs ih =>
    refine (ih _ (o + 1) (by omega)).trans ?_
    exact World.cell?_setCell_other _ _ _ _ (by intro e; simp only [Addr.mk.injEq] at e; omega)
theorem stL_cell (w : World) (b o : Nat) (vs : List Value) (hx : ∀ q, o ≤ q → q < o + vs.length → ∃ x, w.cell? ⟨b, q, none⟩ = some x) : ∀ q v, vs[q]? = some v → (stL w b o vs).cell? ⟨b, o + q, none⟩ = some v := by
  induction vs generalizing w o with
  | nil => intro q v h; simp at h
  | cons u vs ih =>
    intro q v h
    have hx' : ∀ q, o + 1 ≤ q → q < o + 1 + vs.length → ∃ x, (w.setCell ⟨b, o, none⟩ u).cell? ⟨b, q, none⟩ = some x := fun q h1 h2 => by
      obtain ⟨x, e⟩ := hx q (by omega) (by simp; omega)
      exact ⟨x, (World.cell?_setCell_other _ _ _ _ (by intro z; simp only [Addr.mk.injEq] at z; omega)).trans e⟩
    match q, h with
    | 0, h =>
      simp at h
      subst h
      obtain ⟨x, e⟩ := hx o (Nat.le_refl _) (by simp)
      refine (stL_old _ b (o + 1) vs o (by omega)).trans ?_
      exact World.cell?_setCell_same _ _ _ e
    | q + 1, h =>
      have := ih (w.setCell ⟨b, o, none⟩ u) (o + 1) hx' q v (by simpa using h)
      rw [show o + (q + 1) = o + 1 + q by omega]
      exact this
end Go.Proofs.YtfhcpicddegblaaGreat
namespace Go.Proofs.YtfhcpicddegblaaGreat
open Go.RowKit Go.ChangeShapes
set_option linter.unusedSimpArgs false
set_option linter.unusedVariables false

theorem codeIf_any (b : Bool) (c : Int) (w : World) :
    Calls Tryz.prog 37 #[.bool b, .int .i64 c] w fun e w' => e = .returned (.int .i64 (if b then c else 0)) ∧ w' = w := by
  cases b
  · go_enter Tryz.func37, Tryz.ntmps37
    go_wp2
    go_ret
    exact ⟨rfl, rfl⟩
  · go_enter Tryz.func37, Tryz.ntmps37
    go_wp2
    go_ret
    exact ⟨rfl, rfl⟩

/-- The smallest of the codes that are not 0. -/
def smN (xs : List Int) : Nat → Int
  | 0 => 0
  | k + 1 => if xs.getD k 0 ≠ 0 ∧ (smN xs k = 0 ∨ xs.getD k 0 < smN xs k) then xs.getD k 0 else smN xs k
def smallL (xs : List Int) : Int := smN xs xs.length
set_option maxHeartbeats 1000000 in
theorem smallest_any {w : World} {b off cap : Nat} {xs : List Int} (h : Row w b off xs) (hl : xs.length ≤ 1000) :
    Calls Tryz.prog 36 #[.slice (some ⟨b, off, none⟩) xs.length cap] w fun e w' => e = .returned (.int .i64 (smallL xs)) ∧ w' = w := by
  have HR := hide h
  clear h
  have n0 : (0 : Int) ≤ (xs.length : Int) := Int.natCast_nonneg _
  go_enter Tryz.func36, Tryz.ntmps36
  go_wp2_with fail
  go_loopw [3, 8] (fun s i wr => ∃ k : Nat, i = .int .i64 k ∧ k ≤ xs.length ∧ s = .int .i64 (smN xs k) ∧ wr = w) (fun s i _ => xs.length - (intOf i).toNat)
  case atStart => exact ⟨0, rfl, by omega, rfl, rfl⟩
  case round =>
    obtain ⟨k, rfl, hk, rfl, rfl⟩ := hrel
    by_cases hkn : k < xs.length
    · have q0 := HR.out k hkn
      have k0' : (0 : Int) ≤ (k : Int) := Int.natCast_nonneg _
      have k1 : (k : Int) < (xs.length : Int) := by omega
      have hnx : Hid (smN xs (k + 1) = if xs.getD k 0 ≠ 0 ∧ (smN xs k = 0 ∨ xs.getD k 0 < smN xs k) then xs.getD k 0 else smN xs k) := rfl
      generalize xs.getD k 0 = c at q0 hnx
      generalize smN xs k = s at hnx ⊢
      by_cases hc : c = 0
      · have hn : Hid (smN xs (k + 1) = s) := by show _ = _; rw [hnx.out, if_neg (fun q => q.1 hc)]
        subst hc
        go_wp2_with fail
        go_roundw
        · exact ⟨k + 1, by go_num, by omega, by rw [hn.out], by trivial⟩
        · simp [intOf]; omega
      · by_cases hs : s = 0
        · have hn : Hid (smN xs (k + 1) = c) := by show _ = _; rw [hnx.out, if_pos ⟨hc, .inl hs⟩]
          subst hs
          go_wp2_with fail
          go_roundw
          · exact ⟨k + 1, by go_num, by omega, by rw [hn.out], by trivial⟩
          · simp [intOf]; omega
        · by_cases hlt : c < s
          · have hn : Hid (smN xs (k + 1) = c) := by show _ = _; rw [hnx.out, if_pos ⟨hc, .inr hlt⟩]
            go_wp2_with fail
            go_roundw
            · exact ⟨k + 1, by go_num, by omega, by rw [hn.out], by trivial⟩
            · simp [intOf]; omega
          · have hd : decide (c < s) = false := decide_eq_false hlt
            have hle : s ≤ c := by omega
            have hn : Hid (smN xs (k + 1) = s) := by show _ = _; rw [hnx.out, if_neg (fun q => by rcases q.2 with e | e; exact hs e; exact hlt e)]
            go_wp2_with fail
            · rename_i hx; exact absurd (by simpa using hx.2) hs
            go_roundw
            · exact ⟨k + 1, by go_num, by omega, by rw [hn.out], by trivial⟩
            · simp [intOf]; omega
    · have hkk : k = xs.length := by omega
      subst hkk
      go_wp2
      go_ret
      exact ⟨rfl, rfl⟩
end Go.Proofs.YtfhcpicddegblaaGreat
namespace Go.Proofs.YtfhcpicddegblaaGreat
open Go.ChangeShapes Go.RowKit
set_option linter.unusedSimpArgs false
set_option linter.unusedVariables false

theorem row_new2 (W : World) (a b : Int) (t : TypeId) : Row (W.alloc (.cells #[.int .i64 a, .int .i64 b] t)) W.heap.size 0 [a, b] := fun j hj => by
  rw [Nat.zero_add, new_cell W _ t _ rfl j]
  match j with
  | 0 => rfl
  | 1 => rfl
  | j + 2 => simp at hj; omega
/-- The code of a write. -/
def wrC (nd cast : Bool) : Int := smallL [if !nd then 9 else 0, if !cast then 10 else 0]

set_option maxRecDepth 100000 in
set_option maxHeartbeats 2000000 in
theorem writeCode_any (xs sv : List Int) (off st dt : Int) (u : Value) (hv : ValidV xs sv off) (w : World) :
    Calls Tryz.prog 38 #[.agg #[.int .i64 xs.length, .int .i64 (xs.getD 0 0), .int .i64 (xs.getD 1 0), .int .i64 (xs.getD 2 0), .int .i64 (xs.getD 3 0), .int .i64 (sv.getD 0 0), .int .i64 (sv.getD 1 0), .int .i64 (sv.getD 2 0), .int .i64 (sv.getD 3 0), .int .i64 off, .int .i64 st, .int .i64 dt, u], .int .i64 8] w fun e w' => e = .returned (.int .i64 (wrC (decide (offsL xs sv off).Nodup) (castL 8 dt 1))) ∧ Bel w w' := by
  have hd := hide (fun W => differ_any hv W)
  generalize decide (offsL xs sv off).Nodup = nd at hd ⊢
  unfold vw at hd
  clear hv
  generalize xs.getD 0 0 = a0 at *
  generalize xs.getD 1 0 = a1 at *
  generalize xs.getD 2 0 = a2 at *
  generalize xs.getD 3 0 = a3 at *
  generalize sv.getD 0 0 = b0 at *
  generalize sv.getD 1 0 = b1 at *
  generalize sv.getD 2 0 = b2 at *
  generalize sv.getD 3 0 = b3 at *
  have x0 : Ext w (w.alloc (.cells #[.int .i64 xs.length, .int .i64 a0, .int .i64 a1, .int .i64 a2, .int .i64 a3, .int .i64 b0, .int .i64 b1, .int .i64 b2, .int .i64 b3, .int .i64 off, .int .i64 st, .int .i64 dt, u] 85)) := (Ext.refl w).alloc _ _
  have n0 := fun j => new_cell w #[.int .i64 xs.length, .int .i64 a0, .int .i64 a1, .int .i64 a2, .int .i64 a3, .int .i64 b0, .int .i64 b1, .int .i64 b2, .int .i64 b3, .int .i64 off, .int .i64 st, .int .i64 dt, u] 85 w.heap.size rfl j
  have HS : Hid (∀ W', Bel (w.alloc (.cells #[.int .i64 xs.length, .int .i64 a0, .int .i64 a1, .int .i64 a2, .int .i64 a3, .int .i64 b0, .int .i64 b1, .int .i64 b2, .int .i64 b3, .int .i64 off, .int .i64 st, .int .i64 dt, u] 85)) W' → (fun w' => w'.cell? ⟨w.heap.size, 0, none⟩ = some (.int .i64 xs.length) ∧ w'.cell? ⟨w.heap.size, 1, none⟩ = some (.int .i64 a0) ∧ w'.cell? ⟨w.heap.size, 2, none⟩ = some (.int .i64 a1) ∧ w'.cell? ⟨w.heap.size, 3, none⟩ = some (.int .i64 a2) ∧ w'.cell? ⟨w.heap.size, 4, none⟩ = some (.int .i64 a3) ∧ w'.cell? ⟨w.heap.size, 5, none⟩ = some (.int .i64 b0) ∧ w'.cell? ⟨w.heap.size, 6, none⟩ = some (.int .i64 b1) ∧ w'.cell? ⟨w.heap.size, 7, none⟩ = some (.int .i64 b2) ∧ w'.cell? ⟨w.heap.size, 8, none⟩ = some (.int .i64 b3) ∧ w'.cell? ⟨w.heap.size, 9, none⟩ = some (.int .i64 off) ∧ w'.cell? ⟨w.heap.size, 11, none⟩ = some (.int .i64 dt)) W') := fun W' h => ⟨Bel.box h (n0 0), Bel.box h (n0 1), Bel.box h (n0 2), Bel.box h (n0 3), Bel.box h (n0 4), Bel.box h (n0 5), Bel.box h (n0 6), Bel.box h (n0 7), Bel.box h (n0 8), Bel.box h (n0 9), Bel.box h (n0 11)⟩
  have X0 := hide x0.bl
  clear x0 n0
  generalize hcc : castL 8 dt 1 = cc
  have Hcc := hide hcc
  clear hcc
  cases nd <;> cases cc
  · go_enter Tryz.func38, Tryz.ntmps38
    go_wp2_with fail
    generalize w.alloc (.cells #[.int .i64 xs.length, .int .i64 a0, .int .i64 a1, .int .i64 a2, .int .i64 a3, .int .i64 b0, .int .i64 b1, .int .i64 b2, .int .i64 b3, .int .i64 off, .int .i64 st, .int .i64 dt, u] 85) = W1 at HS X0 ⊢
    have HB0 : Hid (Bel W1 W1.drew) := (Below.refl _ _).drew
    have SA := hide (HS.out W1.drew HB0.out)
    go_region_held3 (fun w' => w'.cell? ⟨w.heap.size, 0, none⟩ = some (.int .i64 xs.length) ∧ w'.cell? ⟨w.heap.size, 1, none⟩ = some (.int .i64 a0) ∧ w'.cell? ⟨w.heap.size, 2, none⟩ = some (.int .i64 a1) ∧ w'.cell? ⟨w.heap.size, 3, none⟩ = some (.int .i64 a2) ∧ w'.cell? ⟨w.heap.size, 4, none⟩ = some (.int .i64 a3) ∧ w'.cell? ⟨w.heap.size, 5, none⟩ = some (.int .i64 b0) ∧ w'.cell? ⟨w.heap.size, 6, none⟩ = some (.int .i64 b1) ∧ w'.cell? ⟨w.heap.size, 7, none⟩ = some (.int .i64 b2) ∧ w'.cell? ⟨w.heap.size, 8, none⟩ = some (.int .i64 b3) ∧ w'.cell? ⟨w.heap.size, 9, none⟩ = some (.int .i64 off) ∧ w'.cell? ⟨w.heap.size, 11, none⟩ = some (.int .i64 dt)) (first | with_reducible exact SA.out | with_reducible exact SB.out | exact SA.out | exact SB.out | exact HS.out _ (HB2.out.alloc HB2.out.size _)) (first | (go_at_call 79; refine (hd.out _).mono ?_; rintro e w2 ⟨rfl, b2⟩; have HB2 := hide (Bel.tr HB0.out b2); have SB := hide (HS.out w2 HB2.out); clear b2) | (go_at_call 37; refine (codeIf_any _ _ _).mono ?_; rintro e w' ⟨rfl, rfl⟩) | (go_at_call 80; refine (iCanCast_any _ _ _ _).mono ?_; rintro e w' ⟨rfl, rfl⟩; rw [Hcc.out]) | (go_at_call 36; refine (smallest_any (xs := [9, 10]) (row_new2 _ _ _ _) (by simp)).mono ?_; rintro e w' ⟨rfl, rfl⟩))
    go_wp2
    go_ret
    exact ⟨rfl, Bel.tr X0.out (HB2.out.alloc HB2.out.size _)⟩
  · go_enter Tryz.func38, Tryz.ntmps38
    go_wp2_with fail
    generalize w.alloc (.cells #[.int .i64 xs.length, .int .i64 a0, .int .i64 a1, .int .i64 a2, .int .i64 a3, .int .i64 b0, .int .i64 b1, .int .i64 b2, .int .i64 b3, .int .i64 off, .int .i64 st, .int .i64 dt, u] 85) = W1 at HS X0 ⊢
    have HB0 : Hid (Bel W1 W1.drew) := (Below.refl _ _).drew
    have SA := hide (HS.out W1.drew HB0.out)
    go_region_held3 (fun w' => w'.cell? ⟨w.heap.size, 0, none⟩ = some (.int .i64 xs.length) ∧ w'.cell? ⟨w.heap.size, 1, none⟩ = some (.int .i64 a0) ∧ w'.cell? ⟨w.heap.size, 2, none⟩ = some (.int .i64 a1) ∧ w'.cell? ⟨w.heap.size, 3, none⟩ = some (.int .i64 a2) ∧ w'.cell? ⟨w.heap.size, 4, none⟩ = some (.int .i64 a3) ∧ w'.cell? ⟨w.heap.size, 5, none⟩ = some (.int .i64 b0) ∧ w'.cell? ⟨w.heap.size, 6, none⟩ = some (.int .i64 b1) ∧ w'.cell? ⟨w.heap.size, 7, none⟩ = some (.int .i64 b2) ∧ w'.cell? ⟨w.heap.size, 8, none⟩ = some (.int .i64 b3) ∧ w'.cell? ⟨w.heap.size, 9, none⟩ = some (.int .i64 off) ∧ w'.cell? ⟨w.heap.size, 11, none⟩ = some (.int .i64 dt)) (first | with_reducible exact SA.out | with_reducible exact SB.out | exact SA.out | exact SB.out | exact HS.out _ (HB2.out.alloc HB2.out.size _)) (first | (go_at_call 79; refine (hd.out _).mono ?_; rintro e w2 ⟨rfl, b2⟩; have HB2 := hide (Bel.tr HB0.out b2); have SB := hide (HS.out w2 HB2.out); clear b2) | (go_at_call 37; refine (codeIf_any _ _ _).mono ?_; rintro e w' ⟨rfl, rfl⟩) | (go_at_call 80; refine (iCanCast_any _ _ _ _).mono ?_; rintro e w' ⟨rfl, rfl⟩; rw [Hcc.out]) | (go_at_call 36; refine (smallest_any (xs := [9, 0]) (row_new2 _ _ _ _) (by simp)).mono ?_; rintro e w' ⟨rfl, rfl⟩))
    go_wp2
    go_ret
    exact ⟨rfl, Bel.tr X0.out (HB2.out.alloc HB2.out.size _)⟩
  · go_enter Tryz.func38, Tryz.ntmps38
    go_wp2_with fail
    generalize w.alloc (.cells #[.int .i64 xs.length, .int .i64 a0, .int .i64 a1, .int .i64 a2, .int .i64 a3, .int .i64 b0, .int .i64 b1, .int .i64 b2, .int .i64 b3, .int .i64 off, .int .i64 st, .int .i64 dt, u] 85) = W1 at HS X0 ⊢
    have HB0 : Hid (Bel W1 W1.drew) := (Below.refl _ _).drew
    have SA := hide (HS.out W1.drew HB0.out)
    go_region_held3 (fun w' => w'.cell? ⟨w.heap.size, 0, none⟩ = some (.int .i64 xs.length) ∧ w'.cell? ⟨w.heap.size, 1, none⟩ = some (.int .i64 a0) ∧ w'.cell? ⟨w.heap.size, 2, none⟩ = some (.int .i64 a1) ∧ w'.cell? ⟨w.heap.size, 3, none⟩ = some (.int .i64 a2) ∧ w'.cell? ⟨w.heap.size, 4, none⟩ = some (.int .i64 a3) ∧ w'.cell? ⟨w.heap.size, 5, none⟩ = some (.int .i64 b0) ∧ w'.cell? ⟨w.heap.size, 6, none⟩ = some (.int .i64 b1) ∧ w'.cell? ⟨w.heap.size, 7, none⟩ = some (.int .i64 b2) ∧ w'.cell? ⟨w.heap.size, 8, none⟩ = some (.int .i64 b3) ∧ w'.cell? ⟨w.heap.size, 9, none⟩ = some (.int .i64 off) ∧ w'.cell? ⟨w.heap.size, 11, none⟩ = some (.int .i64 dt)) (first | with_reducible exact SA.out | with_reducible exact SB.out | exact SA.out | exact SB.out | exact HS.out _ (HB2.out.alloc HB2.out.size _)) (first | (go_at_call 79; refine (hd.out _).mono ?_; rintro e w2 ⟨rfl, b2⟩; have HB2 := hide (Bel.tr HB0.out b2); have SB := hide (HS.out w2 HB2.out); clear b2) | (go_at_call 37; refine (codeIf_any _ _ _).mono ?_; rintro e w' ⟨rfl, rfl⟩) | (go_at_call 80; refine (iCanCast_any _ _ _ _).mono ?_; rintro e w' ⟨rfl, rfl⟩; rw [Hcc.out]) | (go_at_call 36; refine (smallest_any (xs := [0, 10]) (row_new2 _ _ _ _) (by simp)).mono ?_; rintro e w' ⟨rfl, rfl⟩))
    go_wp2
    go_ret
    exact ⟨rfl, Bel.tr X0.out (HB2.out.alloc HB2.out.size _)⟩
  · go_enter Tryz.func38, Tryz.ntmps38
    go_wp2_with fail
    generalize w.alloc (.cells #[.int .i64 xs.length, .int .i64 a0, .int .i64 a1, .int .i64 a2, .int .i64 a3, .int .i64 b0, .int .i64 b1, .int .i64 b2, .int .i64 b3, .int .i64 off, .int .i64 st, .int .i64 dt, u] 85) = W1 at HS X0 ⊢
    have HB0 : Hid (Bel W1 W1.drew) := (Below.refl _ _).drew
    have SA := hide (HS.out W1.drew HB0.out)
    go_region_held3 (fun w' => w'.cell? ⟨w.heap.size, 0, none⟩ = some (.int .i64 xs.length) ∧ w'.cell? ⟨w.heap.size, 1, none⟩ = some (.int .i64 a0) ∧ w'.cell? ⟨w.heap.size, 2, none⟩ = some (.int .i64 a1) ∧ w'.cell? ⟨w.heap.size, 3, none⟩ = some (.int .i64 a2) ∧ w'.cell? ⟨w.heap.size, 4, none⟩ = some (.int .i64 a3) ∧ w'.cell? ⟨w.heap.size, 5, none⟩ = some (.int .i64 b0) ∧ w'.cell? ⟨w.heap.size, 6, none⟩ = some (.int .i64 b1) ∧ w'.cell? ⟨w.heap.size, 7, none⟩ = some (.int .i64 b2) ∧ w'.cell? ⟨w.heap.size, 8, none⟩ = some (.int .i64 b3) ∧ w'.cell? ⟨w.heap.size, 9, none⟩ = some (.int .i64 off) ∧ w'.cell? ⟨w.heap.size, 11, none⟩ = some (.int .i64 dt)) (first | with_reducible exact SA.out | with_reducible exact SB.out | exact SA.out | exact SB.out | exact HS.out _ (HB2.out.alloc HB2.out.size _)) (first | (go_at_call 79; refine (hd.out _).mono ?_; rintro e w2 ⟨rfl, b2⟩; have HB2 := hide (Bel.tr HB0.out b2); have SB := hide (HS.out w2 HB2.out); clear b2) | (go_at_call 37; refine (codeIf_any _ _ _).mono ?_; rintro e w' ⟨rfl, rfl⟩) | (go_at_call 80; refine (iCanCast_any _ _ _ _).mono ?_; rintro e w' ⟨rfl, rfl⟩; rw [Hcc.out]) | (go_at_call 36; refine (smallest_any (xs := [0, 0]) (row_new2 _ _ _ _) (by simp)).mono ?_; rintro e w' ⟨rfl, rfl⟩))
    go_wp2
    go_ret
    exact ⟨rfl, Bel.tr X0.out (HB2.out.alloc HB2.out.size _)⟩
end Go.Proofs.YtfhcpicddegblaaGreat
namespace Go.Proofs.YtfhcpicddegblaaGreat
open Go.ChangeShapes Go.RowKit FL
set_option linter.unusedSimpArgs false
set_option linter.unusedVariables false

/-- What Solve answers. -/
def IsOk (w : World) (ss : List St) (a b o : Ar) (e : Ending) (w' : World) : Prop := ∃ c u ts, e = .returned (.agg #[.int .i64 c, u]) ∧ SolveOk ss a b o c ts ∧ MOwn w' w.heap.size u ts ∧ Bel w w'
/-- The values C lie in block B. -/
def AtB (W : World) (B : Nat) (C : List Value) : Prop := ∀ j x, C[j]? = some x → W.cell? ⟨B, j, none⟩ = some x
theorem AtB.keep {W W' : World} {B : Nat} {C : List Value} (h : AtB W B C) (x : Bel W W') : AtB W' B C := fun j y hy => Bel.box x (h j y hy)
/-- The boxes of impl.Solve behind the opening: the heap, the answer, the three opened arrays. -/
structure IBx (w W1 : World) (hv : Value) (B1 B2 B3 : Nat) (C1 C2 C3 : List Value) (W : World) : Prop where
  h : W.cell? ⟨w.heap.size, 0, none⟩ = some hv
  r0 : W.cell? ⟨w.heap.size + 4, 0, none⟩ = some (.int .i64 0)
  r1 : W.cell? ⟨w.heap.size + 4, 1, none⟩ = some (.slice none 0 0)
  fz : ∀ j, W.frozen? ⟨w.heap.size + 4, j, none⟩ = false
  c1 : AtB W B1 C1
  c2 : AtB W B2 C2
  c3 : AtB W B3 C3
  bl : Bel w W
  sz : w.heap.size + 5 ≤ W.heap.size
  b1 : Bel W1 W
theorem IBx.keep {w W1 : World} {hv : Value} {B1 B2 B3 : Nat} {C1 C2 C3 : List Value} {W W' : World} (h : IBx w W1 hv B1 B2 B3 C1 C2 C3 W) (x : Bel W W') : IBx w W1 hv B1 B2 B3 C1 C2 C3 W' :=
  ⟨Bel.box x h.h, Bel.box x h.r0, Bel.box x h.r1, fun j => (Below.frozen x (p := ⟨w.heap.size + 4, j, none⟩) (cell_lt h.r0)).trans (h.fz j), h.c1.keep x, h.c2.keep x, h.c3.keep x, Bel.tr h.bl x, Nat.le_trans h.sz x.size, Bel.tr h.b1 x⟩
theorem eq79 (a b c d e f g h : Int) (w : World) : (Op.equalIn 9999 79 (.agg #[.int .i64 a, .int .i64 b, .int .i64 c, .int .i64 d]) (.agg #[.int .i64 e, .int .i64 f, .int .i64 g, .int .i64 h])).run Tryz.prog w = .ok (decide (a = e ∧ b = f ∧ c = g ∧ d = h)) w := by
  rw [show (9999 : Nat) = 9998 + 1 from rfl, Op.equalIn]
  simp only [Sem.run_bind, run_underlying Tryz.underlying79, Result.andThen_ok]
  simp only [Std.Legacy.Range.forIn_eq_forIn_range', Std.Legacy.Range.size, Nat.sub_zero, Nat.add_sub_cancel, Nat.div_one, List.range'_succ, List.range'_zero, List.forIn_cons, List.forIn_nil]
  go_simp
  by_cases h1 : a = e <;> by_cases h2 : b = f <;> by_cases h3 : c = g <;> by_cases h4 : d = h <;> simp [h1, h2, h3, h4]
/-- The shapes fit, as impl.Solve asks it. -/
theorem fit_iff (a b o : Ar) : fitB a b o = decide (((a.xs.length : Int) = 2 ∧ a.xs.getD 1 0 = a.xs.getD 0 0 ∧ a.xs.getD 2 0 = 0 ∧ a.xs.getD 3 0 = 0) ∧ ((b.xs.length : Int) = 1 ∧ b.xs.getD 0 0 = a.xs.getD 0 0 ∧ b.xs.getD 1 0 = 0 ∧ b.xs.getD 2 0 = 0 ∧ b.xs.getD 3 0 = 0) ∧ ((o.xs.length : Int) = 1 ∧ o.xs.getD 0 0 = a.xs.getD 0 0 ∧ o.xs.getD 1 0 = 0 ∧ o.xs.getD 2 0 = 0 ∧ o.xs.getD 3 0 = 0)) := by
  unfold fitB
  rw [decide_eq_decide]
  generalize a.xs = A, b.xs = B, o.xs = O
  constructor
  · rintro ⟨h1, h2, h3⟩
    subst h3
    obtain ⟨x, rfl⟩ : ∃ x, B = [x] := by
      match B, h1 with
      | [x], _ => exact ⟨x, rfl⟩
    subst h2
    simp
  · rintro ⟨⟨h1, h2, _, _⟩, ⟨h3, h4, _⟩, ⟨h5, h6, _⟩⟩
    obtain ⟨x, y, rfl⟩ : ∃ x y, A = [x, y] := by
      match A, (show A.length = 2 by omega) with
      | [x, y], _ => exact ⟨x, y, rfl⟩
    obtain ⟨z, rfl⟩ : ∃ z, B = [z] := by
      match B, (show B.length = 1 by omega) with
      | [z], _ => exact ⟨z, rfl⟩
    obtain ⟨u, rfl⟩ : ∃ u, O = [u] := by
      match O, (show O.length = 1 by omega) with
      | [u], _ => exact ⟨u, rfl⟩
    simp at h2 h4 h6
    simp [h2, h4, h6]
theorem wrC_cast (nd : Bool) : wrC nd (castL 8 8 1) = if nd = true then 0 else 9 := by
  have e : castL 8 8 1 = true := by decide
  rw [e]
  cases nd <;> decide
theorem wrC_or (nd cast : Bool) : wrC nd cast = 0 ∨ 9 ≤ wrC nd cast := by cases nd <;> cases cast <;> decide
theorem small_4 {y z : Int} (hy : y = 0 ∨ y = 6) (hz : z = 0 ∨ 9 ≤ z) : smallL [4, y, z] = 4 := by
  simp [smallL, smN]
  rcases hy with rfl | rfl <;> rcases hz with rfl | hz <;> simp <;> omega
theorem small_6 {z : Int} (hz : z = 0 ∨ 9 ≤ z) : smallL [0, 6, z] = 6 := by
  simp [smallL, smN]
  rcases hz with rfl | hz <;> omega
theorem small_0 (z : Int) : smallL [0, 0, z] = z := by
  simp [smallL, smN]
  intro h
  exact h.symm
theorem row_new3 (W : World) (a b c : Int) (t : TypeId) : Row (W.alloc (.cells #[.int .i64 a, .int .i64 b, .int .i64 c] t)) W.heap.size 0 [a, b, c] := fun j hj => by
  rw [Nat.zero_add, new_cell W _ t _ rfl j]
  match j with
  | 0 => rfl
  | 1 => rfl
  | 2 => rfl
/-- Three blocks, one behind the other. -/
theorem three_new (W : World) (X Y Z : List Value) (n1 n2 : Nat) (h1 : n1 = W.heap.size + 1) (h2 : n2 = W.heap.size + 1 + 1) : Ext W ((((W.alloc (.cells X.toArray 85)).alloc (.cells Y.toArray 85)).alloc (.cells Z.toArray 85)).drew) ∧
    AtB ((((W.alloc (.cells X.toArray 85)).alloc (.cells Y.toArray 85)).alloc (.cells Z.toArray 85)).drew) W.heap.size X ∧ AtB ((((W.alloc (.cells X.toArray 85)).alloc (.cells Y.toArray 85)).alloc (.cells Z.toArray 85)).drew) n1 Y ∧ AtB ((((W.alloc (.cells X.toArray 85)).alloc (.cells Y.toArray 85)).alloc (.cells Z.toArray 85)).drew) n2 Z := by
  have e0 := ((((Ext.refl W).alloc X.toArray 85).alloc Y.toArray 85).alloc Z.toArray 85).drew
  have e1 := (((Ext.refl (W.alloc (.cells X.toArray 85))).alloc Y.toArray 85).alloc Z.toArray 85).drew
  have e2 := ((Ext.refl ((W.alloc (.cells X.toArray 85)).alloc (.cells Y.toArray 85))).alloc Z.toArray 85).drew
  have e3 := (Ext.refl (((W.alloc (.cells X.toArray 85)).alloc (.cells Y.toArray 85)).alloc (.cells Z.toArray 85))).drew
  subst h1 h2
  refine ⟨e0, fun j x hx => e1.box ((new_cell W X.toArray 85 _ rfl j).trans (by simpa using hx)), fun j x hx => e2.box ((new_cell _ Y.toArray 85 (W.heap.size + 1) (by simp) j).trans (by simpa using hx)), fun j x hx => e3.box ((new_cell _ Z.toArray 85 (W.heap.size + 1 + 1) (by simp) j).trans (by simpa using hx))⟩
end Go.Proofs.YtfhcpicddegblaaGreat
namespace Go.Proofs.YtfhcpicddegblaaGreat
open Go.ChangeShapes Go.RowKit
set_option linter.unusedSimpArgs false
set_option linter.unusedVariables false

set_option maxRecDepth 100000 in
set_option maxHeartbeats 1000000 in
theorem szInts_any (sa : Option Addr) (n cap : Nat) (left : Int) (hn : n ≤ 9223372036854775807) (hl : 0 ≤ left ∧ left ≤ 1048576) (w : World) :
    Calls Tryz.prog 64 #[.slice sa n cap, .int .i64 left] w fun e w' => e = .returned (.int .i64 (if left - n < 0 then -1 else left - n)) ∧ w' = w := by
  by_cases h : left - (n : Int) < 0
  · rw [if_pos h]
    go_enter Tryz.func64, Tryz.ntmps64
    go_wp2
    go_ret
    exact ⟨rfl, rfl⟩
  · rw [if_neg h]
    go_enter Tryz.func64, Tryz.ntmps64
    go_wp2
    go_ret
    exact ⟨rfl, rfl⟩

set_option maxRecDepth 100000 in
set_option maxHeartbeats 2000000 in
theorem eqView_true {w : World} {v u v' u' : Value} {xs ss : List Int} (off : Int) (h : Ints w v xs) (g : Ints w u ss) (h' : Ints w v' xs) (g' : Ints w u' ss) (lx : xs.length ≤ 1048576) (ls : ss.length ≤ 1048576) :
    Calls Tryz.prog 48 #[.agg #[v, u, .int .i64 off], .agg #[v', u', .int .i64 off]] w fun e w' => e = .returned (.bool true) ∧ Ext w w' := by
  have x0 : Ext w ((w.alloc (.cells #[v, u, .int .i64 off] 39)).alloc (.cells #[v', u', .int .i64 off] 39)) := ((Ext.refl w).alloc _ _).alloc _ _
  have y0 : Ext (w.alloc (.cells #[v, u, .int .i64 off] 39)) ((w.alloc (.cells #[v, u, .int .i64 off] 39)).alloc (.cells #[v', u', .int .i64 off] 39)) := (Ext.refl _).alloc _ _
  have n1 := fun j => new_cell w #[v, u, .int .i64 off] 39 w.heap.size rfl j
  have n2 := fun j => new_cell (w.alloc (.cells #[v, u, .int .i64 off] 39)) #[v', u', .int .i64 off] 39 (w.heap.size + 1) (by simp) j
  have a1 := y0.box (n1 1)
  have a2 := y0.box (n1 2)
  have b1 := n2 1
  have b2 := n2 2
  have H := hide (h.ext x0)
  have G := hide (g.ext x0)
  have H' := hide (h'.ext x0)
  have G' := hide (g'.ext x0)
  have X0 := hide x0
  clear n1 n2 x0 y0
  obtain ⟨sa, ca, rfl, _⟩ := h
  obtain ⟨sb, cb, rfl, _⟩ := g
  obtain ⟨sc, cc, rfl, _⟩ := h'
  obtain ⟨sd, cd, rfl, _⟩ := g'
  go_enter Tryz.func48, Tryz.ntmps48
  go_wp2_with fail
  refine (eqInts_any H.out H'.out (by omega)).mono ?_
  rintro e w1 ⟨rfl, x1⟩
  rw [show decide (xs = xs) = true from by simp]
  have a1' := x1.box a1
  have a2' := x1.box a2
  have b1' := x1.box b1
  have b2' := x1.box b2
  have G1 := hide (G.out.ext x1)
  have G1' := hide (G'.out.ext x1)
  have X1 := hide (X0.out.trans x1)
  clear a1 a2 b1 b2 x1 H H' G G' X0
  go_wp2_with fail
  refine (eqInts_any G1.out G1'.out (by omega)).mono ?_
  rintro e w2 ⟨rfl, x2⟩
  rw [show decide (ss = ss) = true from by simp]
  have a2'' := x2.box a2'
  have b2'' := x2.box b2'
  have X2 := hide (X1.out.trans x2)
  clear x2 a1' a2' b1' b2'
  go_wp2
  go_ret
  exact ⟨rfl, X2.out⟩
/-- What szView leaves. -/
def szL (n m : Nat) : Int := if (1048576 : Int) - n < 0 then -1 else if (1048576 : Int) - n - m < 0 then -1 else (1048576 : Int) - n - m

set_option maxRecDepth 100000 in
set_option maxHeartbeats 2000000 in
theorem szView_any (sa sb : Option Addr) (n ca m cb : Nat) (off : Int) (hn : n ≤ 9223372036854775807) (hm : m ≤ 9223372036854775807) (w : World) :
    Calls Tryz.prog 24 #[.agg #[.slice sa n ca, .slice sb m cb, .int .i64 off], .int .i64 1048576] w fun e w' => e = .returned (.int .i64 (szL n m)) ∧ Ext w w' := by
  have x0 : Ext w (w.alloc (.cells #[.slice sa n ca, .slice sb m cb, .int .i64 off] 27)) := (Ext.refl w).alloc _ _
  have X0 := hide x0
  clear x0
  by_cases h : (1048576 : Int) - (n : Int) < 0
  · have hs : Hid (szL n m = -1) := if_pos h
    go_enter Tryz.func24, Tryz.ntmps24
    go_wp2_with fail
    refine (szInts_any sa n ca 1048576 hn (by omega) _).mono ?_
    rintro e w1 ⟨rfl, rfl⟩
    rw [if_pos h]
    go_wp2
    go_ret
    exact ⟨ret_int hs.out.symm, X0.out⟩
  · have hb : 0 ≤ (1048576 : Int) - n ∧ (1048576 : Int) - n ≤ 1048576 := by omega
    by_cases h2 : (1048576 : Int) - (n : Int) - (m : Int) < 0
    · have hs : Hid (szL n m = -1) := by show szL n m = -1; unfold szL; rw [if_neg h, if_pos h2]
      go_enter Tryz.func24, Tryz.ntmps24
      go_wp2_with fail
      refine (szInts_any sa n ca 1048576 hn (by omega) _).mono ?_
      rintro e w1 ⟨rfl, rfl⟩
      rw [if_neg (by omega)]
      go_wp2_with fail
      refine (szInts_any sb m cb _ hm hb _).mono ?_
      rintro e w1 ⟨rfl, rfl⟩
      rw [if_pos h2]
      go_wp2
      go_ret
      exact ⟨ret_int hs.out.symm, X0.out⟩
    · have hs : Hid (szL n m = (1048576 : Int) - n - m) := by show szL n m = (1048576 : Int) - n - m; unfold szL; rw [if_neg h, if_neg h2]
      go_enter Tryz.func24, Tryz.ntmps24
      go_wp2_with fail
      refine (szInts_any sa n ca 1048576 hn (by omega) _).mono ?_
      rintro e w1 ⟨rfl, rfl⟩
      rw [if_neg (by omega)]
      go_wp2_with fail
      refine (szInts_any sb m cb _ hm hb _).mono ?_
      rintro e w1 ⟨rfl, rfl⟩
      rw [if_neg (by omega)]
      go_wp2
      go_ret
      exact ⟨ret_int hs.out.symm, X0.out⟩
end Go.Proofs.YtfhcpicddegblaaGreat
