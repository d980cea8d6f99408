import Derived.Test.YtfhcpicddegblaaGreatM7
import Derived.Test.YtfhcpicddegblaaGreatM8
import Derived.Test.YtfhcpicddegblaaGreatFsLs
import Derived.Test.YtfhcpicddegblaaGreatFsEl
import Derived.Test.YtfhcpicddegblaaGreatFsCh
import Derived.Test.YtfhcpicddegblaaGreatM5
import Derived.Deep.OwnRows
import Derived.Test.YtfhcpicddegblaaGreatM1
import Derived.Test.YtfhcpicddegblaaGreatCells3
namespace Go.Proofs.YtfhcpicddegblaaGreat
open Go.RowKit FL Go.ChangeShapes
set_option linter.unusedSimpArgs false
set_option linter.unusedVariables false

/-- Floats as cells. -/
def fcells (L : List Nat) : List C3 := L.map fun x => (0, x, 0)
theorem fcells_take (L : List Nat) (k : Nat) (hk : k < L.length) : fcells (L.take (k + 1)) = fcells (L.take k) ++ [((0 : Int), L.getD k 0, (0 : Nat))] := by
  rw [List.take_add_one, fcells, fcells, List.map_append, List.getElem?_eq_getElem hk, List.getD_eq_getElem?_getD, List.getElem?_eq_getElem hk]
  rfl

set_option maxHeartbeats 2000000 in
theorem floatCells_any {w : World} {b : Nat} {L : List Nat} (h : FRow w b L) (hl : L.length ≤ 4096) :
    Calls Tryz.prog 45 #[.slice (some ⟨b, 0, none⟩) L.length L.length] w fun e w' => CellsOk w (fcells L) e w' := by
  obtain ⟨i0, hi0, hz0, hz1, hz2⟩ := info_parts info66
  have hmk := make_cells w (L.length : Int) (by omega) (by omega)
  rw [Int.toNat_natCast] at hmk
  have S0 := World.ownsRow_made (base := w.heap.size) (e := 66) (size := 3) w (madeCells #[.int .i64 0, .float .f64 0, .float .f64 0] (L.length * 3)) L.length (Nat.le_refl _) (by unfold maxLen; omega) (by simp [madeCells])
  have B0 : Below w.heap.size w (w.alloc (.cells (madeCells #[.int .i64 0, .float .f64 0, .float .f64 0] (L.length * 3)) 66)) := (Below.refl _ _).alloc (Nat.le_refl _) _
  have HO := hide S0
  have HB := hide B0
  have n0 : (0 : Int) ≤ (L.length : Int) := Int.natCast_nonneg _
  have HR := hide h
  clear S0 B0 h
  go_enter Tryz.func45, Tryz.ntmps45
  go_wp2_with fail
  generalize hW0 : w.alloc (.cells (madeCells #[.int .i64 0, .float .f64 0, .float .f64 0] (L.length * 3)) 66) = W0 at HO HB ⊢
  clear hW0 hmk
  go_loopw [3, 11] (fun o i wr => ∃ k : Nat, i = .int .i64 k ∧ k ≤ L.length ∧ o = .slice (some ⟨w.heap.size, 0, none⟩) k L.length ∧ wr.ownsRow w.heap.size 66 3 (.slice (some ⟨w.heap.size, 0, none⟩) k L.length) k (flat (fcells (L.take k))) ∧ Below w.heap.size w wr) (fun o i _ => L.length - (intOf i).toNat)
  case atStart => exact ⟨0, rfl, by omega, rfl, HO.out, HB.out⟩
  case round =>
    obtain ⟨k, rfl, hk, rfl, hO, hB⟩ := hrel
    by_cases hkn : k < L.length
    · have q0 := Bel.box hB (HR.out.cell k hkn)
      have k0' : (0 : Int) ≤ (k : Int) := Int.natCast_nonneg _
      have k1 : (k : Int) < (L.length : Int) := by omega
      have htk : Hid (flat (fcells (L.take (k + 1))) = flat (fcells (L.take k)) ++ [.int .i64 0, .float .f64 (L.getD k 0), .float .f64 0]) := by
        show flat (fcells (L.take (k + 1))) = _
        rw [fcells_take L k hkn, flat_app]
        rfl
      generalize L.getD k 0 = x at q0 htk
      have HO2 := hide hO
      have HB2 := hide hB
      clear hO hB
      have hc1 := World.news_of_block (w := wr.alloc (.cells #[.int .i64 0, .float .f64 x, .float .f64 0] 66)) (cs := #[.int .i64 0, .float .f64 x, .float .f64 0]) (t := 66) (fr := (0, 0)) (heap_alloc_new wr _)
      have HB3 := hide (HB2.out.alloc (HB2.out.size) (.cells #[.int .i64 0, .float .f64 x, .float .f64 0] 66))
      have hsz := HB2.out.size
      go_wp2_with (at_builtin; (refine wpList_append_fits _ rfl _ _ 61 rfl w.heap.size 66 i0 3 Tryz.underlying61 hi0 hz1 w.heap.size k L.length _ rfl (HO2.out.alloc _) ⟨wr.heap.size, 0, none⟩ 1 1 [.int .i64 0, .float .f64 x, .float .f64 0] rfl rfl hc1 (by simp [Value.oneCell']) (by omega) ?_); intro w3 hown3 hgrow3; have HO3 := hide hown3; have HG3 := hide hgrow3; clear hown3 hgrow3)
      have HB4 := hide (Below.grown HB3.out HG3.out (by simp; omega) (fun j hj => by injection hj with hj; omega))
      go_roundw
      · exact ⟨k + 1, by go_num, by omega, rfl, by rw [htk.out]; exact HO3.out, HB4.out⟩
      · simp [intOf]; omega
    · have hkk : k = L.length := by omega
      subst hkk
      rw [List.take_length] at hO
      go_wp2
      go_ret
      obtain ⟨sa, cap, e, hc⟩ := own_cells (lo := w.heap.size) (Nat.le_refl _) hO
      exact ⟨sa, cap, by rw [← e]; rfl, hc, hB⟩
end Go.Proofs.YtfhcpicddegblaaGreat
namespace Go.Proofs.YtfhcpicddegblaaGreat
open Go.ChangeShapes Go.RowKit FL
set_option linter.unusedSimpArgs false
set_option linter.unusedVariables false

set_option maxRecDepth 100000 in
set_option maxHeartbeats 2000000 in
theorem l5Solve_zero (w : World) (sa : Option Addr) (cg : Nat) :
    Calls Tryz.prog 30 #[.slice sa 0 cg] w fun e w' => (∃ b, e = .returned (.tuple #[.slice (some ⟨b, 0, none⟩) 0 0, .bool true])) ∧ Ext w w' := by
  have hmk : (Instr.makeSlice 67 (.int .i64 0) (.int .i64 0)).run Tryz.prog w = .ok (.slice (some ⟨w.heap.size, 0, none⟩) 0 0) (w.alloc (.cells (madeCells #[.float .f64 0] 0) 64)) := make_floats w 0 (by omega)
  go_enter Tryz.func30, Tryz.ntmps30
  go_wp2_with fail
  go_loopw [5] (fun i wr => i = .int .i64 0 ∧ wr = w) (fun i _ => 0)
  case atStart => exact ⟨rfl, rfl⟩
  case round =>
    obtain ⟨rfl, rfl⟩ := hrel
    go_wp2_with fail
    go_loopw [15] (fun i wq => i = .int .i64 (-1) ∧ Ext wr wq) (fun i _ => 0)
    case atStart => exact ⟨rfl, (Ext.refl wr).alloc _ _⟩
    case round =>
      obtain ⟨rfl, hx⟩ := hrel
      go_wp2
      refine bodyPost_ret (results_tmp2 rfl _ _ _) rfl ?_
      exact ⟨⟨_, rfl⟩, hx⟩

set_option maxRecDepth 100000 in
set_option maxHeartbeats 2000000 in
theorem eliminate_zero (w : World) (v : Option Addr) (c : Nat) :
    Calls Tryz.prog 43 #[.agg #[.slice none 0 0, .slice v 0 c]] w fun e w' => e = .returned (.bool true) ∧ Ext w w' := by
  go_enter Tryz.func43, Tryz.ntmps43
  go_wp2_with fail
  go_loopw [10] (fun i wr => i = .int .i64 0 ∧ Ext w wr) (fun i _ => 0)
  case atStart => exact ⟨rfl, (Ext.refl w).alloc _ _⟩
  case round =>
    obtain ⟨rfl, hx⟩ := hrel
    go_wp2
    go_ret
    exact ⟨rfl, hx⟩

set_option maxRecDepth 100000 in
set_option maxHeartbeats 2000000 in
theorem unknowns_zero (w : World) (v : Option Addr) (c : Nat) :
    Calls Tryz.prog 46 #[.agg #[.slice none 0 0, .slice v 0 c]] w fun e w' => (∃ b, e = .returned (.slice (some ⟨b, 0, none⟩) 0 0) ∧ FRow w' b []) ∧ Ext w w' := by
  have hmk : (Instr.makeSlice 67 (.int .i64 0) (.int .i64 0)).run Tryz.prog (w.alloc (.cells #[.slice none 0 0, .slice v 0 c] 94)) = .ok (.slice (some ⟨(w.alloc (.cells #[.slice none 0 0, .slice v 0 c] 94)).heap.size, 0, none⟩) 0 0) ((w.alloc (.cells #[.slice none 0 0, .slice v 0 c] 94)).alloc (.cells (madeCells #[.float .f64 0] 0) 64)) := make_floats (w.alloc (.cells #[.slice none 0 0, .slice v 0 c] 94)) 0 (by omega)
  have F0 := hide (frow_new (w.alloc (.cells #[.slice none 0 0, .slice v 0 c] 94)) 0)
  have n1 := new_cell w #[.slice none 0 0, .slice v 0 c] 94 w.heap.size rfl 0
  simp only [List.getElem?_toArray, List.getElem?_cons_zero] at n1
  have X1 : Hid (Ext w ((w.alloc (.cells #[.slice none 0 0, .slice v 0 c] 94)).alloc (.cells (madeCells #[.float .f64 0] 0) 64))) := ((Ext.refl w).alloc _ _).alloc _ _
  have n2 := ((Ext.refl (w.alloc (.cells #[.slice none 0 0, .slice v 0 c] 94))).alloc (madeCells #[.float .f64 0] 0) 64).box n1
  have hs1 : (w.alloc (.cells #[.slice none 0 0, .slice v 0 c] 94)).heap.size = w.heap.size + 1 := by simp
  rw [hs1] at F0
  go_enter Tryz.func46, Tryz.ntmps46
  go_wp2_with fail
  generalize (w.alloc (.cells #[.slice none 0 0, .slice v 0 c] 94)).alloc (.cells (madeCells #[.float .f64 0] 0) 64) = W2 at F0 X1 n2 ⊢
  go_loopw [4] (fun i wr => i = .int .i64 (-1) ∧ wr = W2) (fun i _ => 0)
  case atStart => exact ⟨rfl, rfl⟩
  case round =>
    obtain ⟨rfl, rfl⟩ := hrel
    go_wp2
    go_ret
    exact ⟨⟨_, rfl, F0.out⟩, X1.out⟩

set_option maxRecDepth 100000 in
set_option maxHeartbeats 2000000 in
theorem eachLane_zero (w : World) (t0 t1 off st dt : Int) (u : Value) (sB : Nat) (hu : u.oneCell' = true) (su : Option Addr) (lu cu : Nat) (e : u = .slice su lu cu) :
    Calls Tryz.prog 41 #[.agg #[.int .i64 2, .int .i64 0, .int .i64 0, .int .i64 0, .int .i64 0, .int .i64 t0, .int .i64 t1, .int .i64 0, .int .i64 0, .int .i64 off, .int .i64 st, .int .i64 dt, u], .int .i64 1, .func (.func 42) #[] #[.pointer (some ⟨sB, 0, none⟩)]] w fun e w' => e = .returned (.tuple #[]) ∧ Ext w w' := by
  subst e
  have hcnt := hide (fun W => count_any W [0, 0] (by simp) (by intro j hj; match j, hj with | 0, _ => exact ⟨by simp, by simp⟩ | 1, _ => exact ⟨by simp, by simp⟩))
  have hpr : prod [(0 : Int), 0] = 0 := by decide
  rw [hpr] at hcnt
  unfold shp at hcnt
  simp only [List.length_cons, List.length_nil, Nat.zero_add, Nat.reduceAdd, Int.cast_ofNat_Int, List.getD_cons_zero, List.getD_cons_succ, List.getD_nil] at hcnt
  go_enter Tryz.func41, Tryz.ntmps41
  go_wp2_with (go_at_call 81; refine (hcnt.out _).mono ?_; rintro e w3 ⟨rfl, rfl⟩)
  refine bodyPost_ret (results_none rfl _ _ _) rfl ⟨rfl, ?_⟩
  exact (((Ext.refl w).alloc _ _).alloc _ _).alloc _ _
/-- A heap in memory of its own, whatever the order of its blocks. -/
structure HSp (w : World) (lo g : Nat) (cb : Nat → Nat) (ss : List St) : Prop where
  dt : ∀ j, j < ss.length → w.cell? ⟨g, j * 2, none⟩ = some (.int .i64 (ss.getD j s0).1)
  sl : ∀ j, j < ss.length → ∃ sa cap, w.cell? ⟨g, j * 2 + 1, none⟩ = some (.slice sa (ss.getD j s0).2.length cap) ∧ ((ss.getD j s0).2 = [] ∨ sa = some ⟨cb j, 0, none⟩)
  row : ∀ j, j < ss.length → (ss.getD j s0).2 ≠ [] → CRow w (cb j) 0 (ss.getD j s0).2
  fzr : ∀ j, j < ss.length → (ss.getD j s0).2 ≠ [] → ∀ o, w.frozen? ⟨cb j, o, none⟩ = false
  lo_g : lo ≤ g
  ne : ∀ j, j < ss.length → (ss.getD j s0).2 ≠ [] → cb j ≠ g ∧ lo ≤ cb j
  nd : ∀ i j, i < j → j < ss.length → (ss.getD i s0).2 ≠ [] → (ss.getD j s0).2 ≠ [] → cb i ≠ cb j
theorem HSp.sv {w : World} {lo g cap : Nat} {cb : Nat → Nat} {ss : List St} (h : HSp w lo g cb ss) : SV w (.slice (some ⟨g, 0, none⟩) ss.length cap) ss := by
  refine ⟨_, cap, rfl, Or.inr ⟨g, 0, rfl, fun j hj => ?_⟩⟩
  rw [Nat.zero_add]
  obtain ⟨sa, cp, h1, h2⟩ := h.sl j hj
  refine ⟨h.dt j hj, _, h1, sa, cp, rfl, ?_⟩
  by_cases e : (ss.getD j s0).2 = []
  · exact Or.inl e
  · exact Or.inr ⟨cb j, 0, h2.resolve_left e, h.row j hj e⟩
/-- How far the specification's copy has come. -/
structure LcSt (w : World) (ss : List St) (k : Nat) (rv : Value) (U : Nat → Value) (cb : Nat → Nat) (wr : World) : Prop where
  bl : Bel w wr
  b0 : wr.cell? ⟨w.heap.size + 2, 0, none⟩ = some rv
  own : wr.ownsRow (w.heap.size + 3) 123 2 rv k (flatS U ss k)
  rs0 : wr.cell? ⟨w.heap.size + 1, 0, none⟩ = some (.slice none 0 0)
  f1 : wr.frozen? ⟨w.heap.size + 1, 0, none⟩ = false
  f2 : wr.frozen? ⟨w.heap.size + 2, 0, none⟩ = false
  fzr : ∀ j, j < k → (ss.getD j s0).2 ≠ [] → ∀ o, wr.frozen? ⟨cb j, o, none⟩ = false
  us : ∀ j, j < k → ∃ sa cap, U j = .slice sa (ss.getD j s0).2.length cap ∧ ((ss.getD j s0).2 = [] ∨ sa = some ⟨cb j, 0, none⟩)
  row : ∀ j, j < k → (ss.getD j s0).2 ≠ [] → CRow wr (cb j) 0 (ss.getD j s0).2
  lt : ∀ j, j < k → (ss.getD j s0).2 ≠ [] → w.heap.size + 3 ≤ cb j ∧ cb j < wr.heap.size ∧ rv.ownBlock ≠ some (cb j)
  inc : ∀ i j, i < j → j < k → (ss.getD i s0).2 ≠ [] → (ss.getD j s0).2 ≠ [] → cb i < cb j
theorem own_far {w : World} {base e size n : Nat} {v : Value} {xs : List Value} (h : w.ownsRow base e size v n xs) {b o : Nat} {u : Value} (hb : v.ownBlock ≠ some b) : (w.setCell ⟨b, o, none⟩ u).ownsRow base e size v n xs := by
  refine ⟨h.1, ?_⟩
  rcases h.2 with h | ⟨g, cap, cur, rfl, h1, h2, h3⟩
  · exact Or.inl h
  · exact Or.inr ⟨g, cap, cur, rfl, h1, (Below.heap_setCell _ _ _ _ (fun e => hb (congrArg some e))).trans h2, h3⟩
theorem LcSt.step {w : World} {ss : List St} {k : Nat} {rv : Value} {U : Nat → Value} {cb : Nat → Nat} {wr : World} (h : LcSt w ss k rv U cb wr) {W5 w7 : World} (b5 : Bel wr W5) {tmp : Obj} (V : Value) (c g cap : Nat)
    (hV : ∃ sa cap, V = .slice sa (ss.getD k s0).2.length cap ∧ ((ss.getD k s0).2 = [] ∨ sa = some ⟨c, 0, none⟩))
    (hr : (ss.getD k s0).2 ≠ [] → CRow W5 c 0 (ss.getD k s0).2 ∧ wr.heap.size ≤ c ∧ ∀ o, W5.frozen? ⟨c, o, none⟩ = false)
    (hown : w7.ownsRow (w.heap.size + 3) 123 2 (.slice (some ⟨g, 0, none⟩) (k + 1) cap) (k + 1) (flatS U ss k ++ [.int .i64 (ss.getD k s0).1, V])) (hgrow : (W5.alloc tmp).grownBy w7 rv.ownBlock) (hat : rv.ownBlock = some g ∨ g = W5.heap.size + 1) :
    LcSt w ss (k + 1) (.slice (some ⟨g, 0, none⟩) (k + 1) cap) (fun j => if j = k then V else U j) (fun j => if j = k then c else cb j) (w7.setCell ⟨w.heap.size + 2, 0, none⟩ (.slice (some ⟨g, 0, none⟩) (k + 1) cap)) := by
  have hs2 := cell_lt h.b0
  have hs5 := Below.size b5
  have hs7 := hgrow.size
  rw [World.size_alloc] at hs7
  have hov : ∀ c, rv.ownBlock = some c → w.heap.size + 3 ≤ c ∧ c < wr.heap.size := fun c hc => h.own.lt c hc
  have hb7 : ∀ b, b < W5.heap.size → rv.ownBlock ≠ some b → w7.heap[b]? = W5.heap[b]? := fun b hb hn => by
    rw [hgrow.block b (by rw [World.size_alloc]; omega) (fun e => hn e.symm)]
    exact ((Below.refl W5.heap.size W5).alloc (Nat.le_refl _) tmp).block b hb
  have hb8 : ∀ b, b < W5.heap.size → rv.ownBlock ≠ some b → b ≠ w.heap.size + 2 → (w7.setCell ⟨w.heap.size + 2, 0, none⟩ (.slice (some ⟨g, 0, none⟩) (k + 1) cap)).heap[b]? = W5.heap[b]? := fun b hb hn hn2 => (Below.heap_setCell _ _ _ _ hn2).trans (hb7 b hb hn)
  have hb9 : ∀ b, b < wr.heap.size → rv.ownBlock ≠ some b → b ≠ w.heap.size + 2 → (w7.setCell ⟨w.heap.size + 2, 0, none⟩ (.slice (some ⟨g, 0, none⟩) (k + 1) cap)).heap[b]? = wr.heap[b]? := fun b hb hn hn2 => (hb8 b (by omega) hn hn2).trans (Below.block b5 b hb)
  have hno : ∀ b, b < w.heap.size + 3 → rv.ownBlock ≠ some b := fun b hb e => by have := hov b e; omega
  have hc2 : w7.cell? ⟨w.heap.size + 2, 0, none⟩ = some rv := (World.cell?_of_block (w := wr) (a := ⟨w.heap.size + 2, 0, none⟩) ((hb7 (w.heap.size + 2) (by omega) (hno _ (by omega))).trans (Below.block b5 (w.heap.size + 2) (by omega)))).trans h.b0
  have hcell : ∀ {b o v}, w.heap.size + 2 < b → rv.ownBlock ≠ some b → W5.cell? ⟨b, o, none⟩ = some v → (w7.setCell ⟨w.heap.size + 2, 0, none⟩ (.slice (some ⟨g, 0, none⟩) (k + 1) cap)).cell? ⟨b, o, none⟩ = some v := fun {b o v} hb hn hc => (World.cell?_of_block (w := W5) (a := ⟨b, o, none⟩) (hb8 b (cell_lt hc) hn (by omega))).trans hc
  have hcw : (ss.getD k s0).2 ≠ [] → rv.ownBlock ≠ some c ∧ c < W5.heap.size ∧ wr.heap.size ≤ c := fun hne => by
    obtain ⟨r1, r2, r3⟩ := hr hne
    have hlt := cell_lt (r1 0 (List.length_pos_iff.2 hne)).1
    exact ⟨fun e => by have := hov c e; omega, hlt, r2⟩
  refine ⟨⟨?_, ?_, ?_, ?_, fun b hb => ?_⟩, ?_, ?_, ?_, ?_, ?_, fun j hj hne o => ?_, fun j hj => ?_, fun j hj hne => ?_, fun j hj hne => ?_, fun i j hij hj hi hjn => ?_⟩
  · exact hgrow.os.trans (b5.os.trans h.bl.os)
  · exact hgrow.tape.trans (b5.tape.trans h.bl.tape)
  · exact hgrow.output.trans (b5.output.trans h.bl.output)
  · have := Below.size h.bl; simp [World.setCell]; omega
  · exact (hb9 b (by have := Below.size h.bl; omega) (hno b (by omega)) (by omega)).trans (Below.block h.bl b hb)
  · exact World.cell?_setCell_same _ _ _ hc2
  · rw [flatS, if_pos rfl, flatS_congr (V := U) (fun j hj => if_neg (by omega))]
    refine hown.kept (grownBy_setCell' w7 (w.heap.size + 2) _) (.inr (fun e => ?_))
    have := own_lo hown (by omega)
    simp [Value.ownBlock] at e
    omega
  · exact (World.cell?_of_block (w := wr) (a := ⟨w.heap.size + 1, 0, none⟩) (hb9 (w.heap.size + 1) (by omega) (hno _ (by omega)) (by omega))).trans h.rs0
  · exact (World.frozen?_of_block (w := wr) (a := ⟨w.heap.size + 1, 0, none⟩) (hb9 (w.heap.size + 1) (by omega) (hno _ (by omega)) (by omega))).trans h.f1
  · rw [World.frozen?_setCell]
    exact (World.frozen?_of_block (w := wr) (a := ⟨w.heap.size + 2, 0, none⟩) ((hb7 (w.heap.size + 2) (by omega) (hno _ (by omega))).trans (Below.block b5 (w.heap.size + 2) (by omega)))).trans h.f2
  · by_cases e : j = k
    · subst e
      rw [if_pos rfl]
      obtain ⟨q1, q2, q3⟩ := hcw hne
      exact (World.frozen?_of_block (w := W5) (a := ⟨c, o, none⟩) (hb8 c q2 q1 (by omega))).trans ((hr hne).2.2 o)
    · rw [if_neg e]
      have hl := h.lt j (by omega) hne
      exact (World.frozen?_of_block (w := wr) (a := ⟨cb j, o, none⟩) (hb9 (cb j) hl.2.1 hl.2.2 (by omega))).trans (h.fzr j (by omega) hne o)
  · by_cases e : j = k
    · subst e; rw [if_pos rfl, if_pos rfl]; exact hV
    · rw [if_neg e, if_neg e]; exact h.us j (by omega)
  · by_cases e : j = k
    · subst e
      rw [if_pos rfl]
      obtain ⟨q1, q2, q3⟩ := hcw hne
      have r1 := (hr hne).1
      exact fun i hi => ⟨hcell (by omega) q1 (r1 i hi).1, hcell (by omega) q1 (r1 i hi).2.1, hcell (by omega) q1 (r1 i hi).2.2⟩
    · rw [if_neg e]
      have hl := h.lt j (by omega) hne
      have hrw := (h.row j (by omega) hne).keep b5
      exact fun i hi => ⟨hcell (by omega) hl.2.2 (hrw i hi).1, hcell (by omega) hl.2.2 (hrw i hi).2.1, hcell (by omega) hl.2.2 (hrw i hi).2.2⟩
  · by_cases e : j = k
    · subst e
      rw [if_pos rfl]
      obtain ⟨q1, q2, q3⟩ := hcw hne
      refine ⟨by omega, by simp [World.setCell]; omega, fun z => ?_⟩
      simp only [Value.ownBlock] at z
      injection z with z
      rcases hat with q | q
      · exact q1 (by rw [q, z])
      · omega
    · rw [if_neg e]
      have hl := h.lt j (by omega) hne
      refine ⟨hl.1, by simp [World.setCell]; omega, fun z => ?_⟩
      simp only [Value.ownBlock] at z
      injection z with z
      rcases hat with q | q
      · exact hl.2.2 (by rw [q, z])
      · omega
  · by_cases e : j = k
    · subst e
      rw [if_pos rfl, if_neg (by omega)]
      obtain ⟨q1, q2, q3⟩ := hcw hjn
      have hl := h.lt i (by omega) hi
      omega
    · rw [if_neg e, if_neg (by omega)]
      exact h.inc i j hij (by omega) hi hjn
theorem LcSt.done {w : World} {ss : List St} {g cap : Nat} {U : Nat → Value} {cb : Nat → Nat} {wr : World} (h : LcSt w ss ss.length (.slice (some ⟨g, 0, none⟩) ss.length cap) U cb wr) (h0 : 0 < ss.length) (v : Value) : HSp (wr.setCell ⟨w.heap.size + 1, 0, none⟩ v) w.heap.size g cb ss := by
  have hgl := own_lo h.own h0
  have hblk : ∀ b, b ≠ w.heap.size + 1 → (wr.setCell ⟨w.heap.size + 1, 0, none⟩ v).heap[b]? = wr.heap[b]? := fun b hb => Below.heap_setCell _ _ _ _ hb
  have hcell : ∀ {b o x}, b ≠ w.heap.size + 1 → wr.cell? ⟨b, o, none⟩ = some x → (wr.setCell ⟨w.heap.size + 1, 0, none⟩ v).cell? ⟨b, o, none⟩ = some x := fun {b o x} hb hc => (World.cell?_of_block (w := wr) (a := ⟨b, o, none⟩) (hblk b hb)).trans hc
  refine ⟨fun j hj => ?_, fun j hj => ?_, fun j hj hne => ?_, fun j hj hne o => ?_, by omega, fun j hj hne => ?_, fun i j hij hj hi hjn => by have := h.inc i j hij hj hi hjn; omega⟩
  · exact hcell (by omega) ((h.own.cellAt _ (by omega)).trans (flatS_get U ss ss.length j hj).1)
  · obtain ⟨sa, cap, h1, h2⟩ := h.us j hj
    exact ⟨sa, cap, hcell (by omega) (((h.own.cellAt _ (by omega)).trans (flatS_get U ss ss.length j hj).2).trans (by rw [h1])), h2⟩
  · have hl := h.lt j hj hne
    have hrw := h.row j hj hne
    exact fun i hi => ⟨hcell (by omega) (hrw i hi).1, hcell (by omega) (hrw i hi).2.1, hcell (by omega) (hrw i hi).2.2⟩
  · rw [World.frozen?_setCell]; exact h.fzr j hj hne o
  · have hl := h.lt j hj hne
    exact ⟨fun e => hl.2.2 (by rw [e]; rfl), by omega⟩

set_option maxRecDepth 100000 in
set_option maxHeartbeats 4000000 in
theorem l4Copy_any {w : World} {vv : Value} {ss : List St} (h : SV w vv ss) (hl : SL ss 1048576) (h0s : 0 < ss.length) :
    Calls Tryz.prog 72 #[.agg #[vv]] w fun e w' => ∃ g cap cb, e = .returned (.agg #[.slice (some ⟨g, 0, none⟩) ss.length cap]) ∧ HSp w' w.heap.size g cb ss ∧ Bel w w' := by
  obtain ⟨i0, hi0, hz0, hz1, hz2⟩ := info_parts info123
  obtain ⟨i6, hi6, hx0, hx1, hx2⟩ := info_parts info66
  obtain ⟨sa, cap, rfl, hx⟩ := h
  have hl1 := hl.1
  obtain ⟨b, off, rfl, hsr⟩ : ∃ b off, sa = some ⟨b, off, none⟩ ∧ SRow w b off ss := by
    rcases hx with h0 | h0
    · rw [h0] at h0s; simp at h0s
    · exact h0
  have x1 : Ext w (((w.alloc (.cells #[.slice (some ⟨b, off, none⟩) ss.length cap] 34)).alloc (.cells #[.slice none 0 0] 34)).alloc (.cells #[.slice none 0 0] 34)) := (((Ext.refl w).alloc _ _).alloc _ _).alloc _ _
  have xa : Ext (w.alloc (.cells #[.slice (some ⟨b, off, none⟩) ss.length cap] 34)) (((w.alloc (.cells #[.slice (some ⟨b, off, none⟩) ss.length cap] 34)).alloc (.cells #[.slice none 0 0] 34)).alloc (.cells #[.slice none 0 0] 34)) := ((Ext.refl _).alloc _ _).alloc _ _
  have xb : Ext ((w.alloc (.cells #[.slice (some ⟨b, off, none⟩) ss.length cap] 34)).alloc (.cells #[.slice none 0 0] 34)) (((w.alloc (.cells #[.slice (some ⟨b, off, none⟩) ss.length cap] 34)).alloc (.cells #[.slice none 0 0] 34)).alloc (.cells #[.slice none 0 0] 34)) := (Ext.refl _).alloc _ _
  have KH := hide (xa.box (new_cell w #[.slice (some ⟨b, off, none⟩) ss.length cap] 34 w.heap.size rfl 0))
  have S0 : Hid (LcSt w ss 0 (.slice none 0 0) (fun _ => .slice none 0 0) (fun _ => 0) (((w.alloc (.cells #[.slice (some ⟨b, off, none⟩) ss.length cap] 34)).alloc (.cells #[.slice none 0 0] 34)).alloc (.cells #[.slice none 0 0] 34))) :=
    ⟨x1.bl, new_cell ((w.alloc (.cells #[.slice (some ⟨b, off, none⟩) ss.length cap] 34)).alloc (.cells #[.slice none 0 0] 34)) #[.slice none 0 0] 34 (w.heap.size + 2) (by simp) 0, ⟨rfl, Or.inl ⟨rfl, rfl⟩⟩, xb.box (new_cell (w.alloc (.cells #[.slice (some ⟨b, off, none⟩) ss.length cap] 34)) #[.slice none 0 0] 34 (w.heap.size + 1) (by simp) 0), x1.unfrozen (by omega) 0, x1.unfrozen (by omega) 0, fun j hj => by omega, fun j hj => by omega, fun j hj => by omega, fun j hj => by omega, fun i j _ hj => by omega⟩
  have HSR := hide hsr
  have HL := hide hl
  clear hx hsr hl x1 xa xb
  go_enter Tryz.func72, Tryz.ntmps72
  go_wp2_with fail
  generalize (((w.alloc (.cells #[.slice (some ⟨b, off, none⟩) ss.length cap] 34)).alloc (.cells #[.slice none 0 0] 34)).alloc (.cells #[.slice none 0 0] 34)) = W0 at S0 KH ⊢
  go_loopw [4] (fun i wr => ∃ (k : Nat) (rv : Value) (U : Nat → Value) (cb : Nat → Nat), i = .int .i64 k ∧ k ≤ ss.length ∧ LcSt w ss k rv U cb wr ∧ wr.cell? ⟨w.heap.size, 0, none⟩ = some (.slice (some ⟨b, off, none⟩) ss.length cap)) (fun i _ => ss.length - (intOf i).toNat)
  case atStart => exact ⟨0, _, _, _, rfl, by omega, S0.out, KH.out⟩
  case round =>
    obtain ⟨k, rv, U, cb, rfl, hk, hC, kh⟩ := hrel
    obtain ⟨wo, rfl⟩ : ∃ wo, wo = wr := ⟨_, rfl⟩
    have HC := hide hC
    have KH2 := hide kh
    clear S0 KH hC
    by_cases hlt : k < ss.length
    · obtain ⟨q0, u, q1, q2⟩ := (HSR.out.keep HC.out.bl) k hlt
      have hcl := HL.out.at k hlt
      have hk0 : (0 : Int) ≤ (k : Int) := Int.natCast_nonneg _
      have hk1 : (k : Int) < (ss.length : Int) := by omega
      have hsw := cell_lt HC.out.b0
      have hh0 := cell_lt kh
      have hbw : b < w.heap.size := cell_lt (HSR.out k hlt).1
      generalize hD : (ss.getD k s0).1 = D at q0
      generalize hcs : (ss.getD k s0).2 = cs at q2 hcl
      have HD := hide hD
      have Hcs := hide hcs
      obtain ⟨su, cu, rfl, hcv⟩ := q2
      have HCV := hide hcv
      clear hD hcs hcv
      have x5 : Ext wo (wo.alloc (.cells #[.int .i64 D, .slice none 0 0] 123)) := (Ext.refl wo).alloc _ _
      have nb := fun j => new_cell wo #[.int .i64 D, .slice none 0 0] 123 wo.heap.size rfl j
      have NB0 := hide (nb 0)
      have NB1 := hide (nb 1)
      have NF : Hid (∀ o, (wo.alloc (.cells #[.int .i64 D, .slice none 0 0] 123)).frozen? ⟨wo.heap.size, o, none⟩ = false) := fun o => x5.unfrozen (Nat.le_refl _) o
      have X5 := hide x5.bl
      have Q1 := hide q1
      clear x5 nb
      go_wp2_with fail
      go_loopw [6] (fun i wv => ∃ (j : Nat) (v : Value), i = .int .i64 j ∧ j ≤ cs.length ∧ Bel wo wv ∧ wv.cell? ⟨wo.heap.size, 0, none⟩ = some (.int .i64 D) ∧ wv.cell? ⟨wo.heap.size, 1, none⟩ = some v ∧ (∀ o, wv.frozen? ⟨wo.heap.size, o, none⟩ = false) ∧ wv.ownsRow (wo.heap.size + 1) 66 3 v j (flat (cs.take j))) (fun i _ => cs.length - (intOf i).toNat)
      case atStart => exact ⟨0, _, rfl, by omega, X5.out, NB0.out, NB1.out, NF.out, ⟨rfl, Or.inl ⟨rfl, rfl⟩⟩⟩
      case round =>
        obtain ⟨j, v, rfl, hj, hBv, hv0, hv1, hvf, hvo⟩ := hrel
        have HBV := hide hBv
        have HVO := hide hvo
        have HVF := hide hvf
        have r0 := Bel.box hBv kh
        have r1 := Bel.box hBv Q1.out
        by_cases hjl : j < cs.length
        · obtain ⟨bc, oc, rfl, hcr⟩ := HCV.out.resolve_left (fun e => by rw [e] at hjl; simp at hjl)
          obtain ⟨t0, t1, t2⟩ := (hcr.keep hBv) j hjl
          have hj0 : (0 : Int) ≤ (j : Int) := Int.natCast_nonneg _
          have hj1 : (j : Int) < (cs.length : Int) := by omega
          have HTK : Hid (flat (cs.take (j + 1)) = flat (cs.take j) ++ c3v (cs.getD j k0)) := by
            show _ = _
            rw [List.take_add_one, List.getElem?_eq_getElem hjl, List.getD_eq_getElem?_getD, List.getElem?_eq_getElem hjl]
            exact flat_one _ _
          have hbcw : bc < wo.heap.size := cell_lt (hcr j hjl).1
          generalize cs.getD j k0 = cx at t0 t1 t2 HTK
          obtain ⟨X, Y, Z⟩ := cx
          simp only at t0 t1 t2
          have SA : Hid ((fun w' : World => w'.cell? ⟨wo.heap.size, 1, none⟩ = some v ∧ w'.cell? ⟨w.heap.size, 0, none⟩ = some (.slice (some ⟨b, off, none⟩) ss.length cap) ∧ w'.cell? ⟨b, off + k * 2 + 1, none⟩ = some (.slice (some ⟨bc, oc, none⟩) cs.length cu) ∧ w'.cell? ⟨bc, oc + j * 3, none⟩ = some (.int .i64 X) ∧ w'.cell? ⟨bc, oc + j * 3 + 1, none⟩ = some (.float .f64 Y) ∧ w'.cell? ⟨bc, oc + j * 3 + 2, none⟩ = some (.float .f64 Z)) wr.drew) := ⟨hv1, r0, r1, t0, t1, t2⟩
          have hws := HBV.out.size
          have hsv := cell_lt hv1
          have hd : decide ((j : Int) < (cs.length : Int)) = true := decide_eq_true (by omega)
          have hov : Hid (∀ c, v.ownBlock = some c → wo.heap.size + 1 ≤ c ∧ c < wr.heap.size) := fun c hc => HVO.out.lt c hc
          have HNW : Hid (∀ q u, (c3v (X, Y, Z))[q]? = some u → (wr.alloc (.cells #[.int .i64 X, .float .f64 Y, .float .f64 Z] 66)).cell? ((⟨wr.heap.size, 0, none⟩ : Addr).add q) = some u) := fun q u hq => by
            rw [Addr.add_lit, Nat.zero_add, new_cell wr _ 66 _ rfl q]
            simpa [c3v] using hq
          have hvf1 := hvf 1
          have HV0 := hide hv0
          clear hBv hvo hvf hcr t0 t1 t2 hv0
          go_wp2_with fail
          refine region_u (S := (fun w' : World => w'.cell? ⟨wo.heap.size, 1, none⟩ = some v ∧ w'.cell? ⟨w.heap.size, 0, none⟩ = some (.slice (some ⟨b, off, none⟩) ss.length cap) ∧ w'.cell? ⟨b, off + k * 2 + 1, none⟩ = some (.slice (some ⟨bc, oc, none⟩) cs.length cu) ∧ w'.cell? ⟨bc, oc + j * 3, none⟩ = some (.int .i64 X) ∧ w'.cell? ⟨bc, oc + j * 3 + 1, none⟩ = some (.float .f64 Y) ∧ w'.cell? ⟨bc, oc + j * 3 + 2, none⟩ = some (.float .f64 Z))) (late := [14]) (by kernel_rfl) ?_
          refine wpAnyU_take (i := 0) (v := .pointer (some ⟨wo.heap.size, 1, none⟩)) rfl (by kernel_rfl) (by kernel_rfl) (fun _ _ _ h => by cases h.1) _ (by kernel_rfl) (by kernel_rfl) (Or.inl ⟨by rfl, ?_⟩) SA.out ?_
          · intro w' hSw
            obtain ⟨z0, z1, z2, z3, z4, z5⟩ := hSw
            go_simp
          simp only [Act.put, List.setIfInBounds_toArray, List.set_cons_zero, List.set_cons_succ]
          refine wpAnyU_take (i := 1) (v := v) rfl (by kernel_rfl) (by kernel_rfl) (fun _ _ _ h => by cases h.1) _ (by kernel_rfl) (by kernel_rfl) (Or.inl ⟨by rfl, ?_⟩) SA.out ?_
          · intro w' hSw
            obtain ⟨z0, z1, z2, z3, z4, z5⟩ := hSw
            go_simp
          simp only [Act.put, List.setIfInBounds_toArray, List.set_cons_zero, List.set_cons_succ]
          refine wpAnyU_take (i := 2) (v := .pointer (some ⟨w.heap.size, 0, none⟩)) rfl (by kernel_rfl) (by kernel_rfl) (fun _ _ _ h => by cases h.1) _ (by kernel_rfl) (by kernel_rfl) (Or.inl ⟨by rfl, ?_⟩) SA.out ?_
          · intro w' hSw
            obtain ⟨z0, z1, z2, z3, z4, z5⟩ := hSw
            go_simp
          simp only [Act.put, List.setIfInBounds_toArray, List.set_cons_zero, List.set_cons_succ]
          refine wpAnyU_take (i := 3) (v := .slice (some ⟨b, off, none⟩) ss.length cap) rfl (by kernel_rfl) (by kernel_rfl) (fun _ _ _ h => by cases h.1) _ (by kernel_rfl) (by kernel_rfl) (Or.inl ⟨by rfl, ?_⟩) SA.out ?_
          · intro w' hSw
            obtain ⟨z0, z1, z2, z3, z4, z5⟩ := hSw
            go_simp
          simp only [Act.put, List.setIfInBounds_toArray, List.set_cons_zero, List.set_cons_succ]
          refine wpAnyU_take (i := 4) (v := .int .i64 k) rfl (by kernel_rfl) (by kernel_rfl) (fun _ _ _ h => by cases h.1) _ (by kernel_rfl) (by kernel_rfl) (Or.inl ⟨by rfl, ?_⟩) SA.out ?_
          · intro w' hSw
            obtain ⟨z0, z1, z2, z3, z4, z5⟩ := hSw
            go_simp
          simp only [Act.put, List.setIfInBounds_toArray, List.set_cons_zero, List.set_cons_succ]
          refine wpAnyU_take (i := 5) (v := .pointer (some ⟨b, off + k * 2, none⟩)) rfl (by kernel_rfl) (by kernel_rfl) (fun _ _ _ h => by cases h.1) _ (by kernel_rfl) (by kernel_rfl) (Or.inl ⟨by rfl, ?_⟩) SA.out ?_
          · intro w' hSw
            obtain ⟨z0, z1, z2, z3, z4, z5⟩ := hSw
            go_simp
          simp only [Act.put, List.setIfInBounds_toArray, List.set_cons_zero, List.set_cons_succ]
          refine wpAnyU_take (i := 6) (v := .pointer (some ⟨b, off + k * 2 + 1, none⟩)) rfl (by kernel_rfl) (by kernel_rfl) (fun _ _ _ h => by cases h.1) _ (by kernel_rfl) (by kernel_rfl) (Or.inl ⟨by rfl, ?_⟩) SA.out ?_
          · intro w' hSw
            obtain ⟨z0, z1, z2, z3, z4, z5⟩ := hSw
            go_simp
          simp only [Act.put, List.setIfInBounds_toArray, List.set_cons_zero, List.set_cons_succ]
          refine wpAnyU_take (i := 7) (v := .slice (some ⟨bc, oc, none⟩) cs.length cu) rfl (by kernel_rfl) (by kernel_rfl) (fun _ _ _ h => by cases h.1) _ (by kernel_rfl) (by kernel_rfl) (Or.inl ⟨by rfl, ?_⟩) SA.out ?_
          · intro w' hSw
            obtain ⟨z0, z1, z2, z3, z4, z5⟩ := hSw
            go_simp
          simp only [Act.put, List.setIfInBounds_toArray, List.set_cons_zero, List.set_cons_succ]
          refine wpAnyU_take (i := 8) (v := .int .i64 j) rfl (by kernel_rfl) (by kernel_rfl) (fun _ _ _ h => by cases h.1) _ (by kernel_rfl) (by kernel_rfl) (Or.inl ⟨by rfl, ?_⟩) SA.out ?_
          · intro w' hSw
            obtain ⟨z0, z1, z2, z3, z4, z5⟩ := hSw
            go_simp
          simp only [Act.put, List.setIfInBounds_toArray, List.set_cons_zero, List.set_cons_succ]
          refine wpAnyU_take (i := 9) (v := .pointer (some ⟨bc, oc + j * 3, none⟩)) rfl (by kernel_rfl) (by kernel_rfl) (fun _ _ _ h => by cases h.1) _ (by kernel_rfl) (by kernel_rfl) (Or.inl ⟨by rfl, ?_⟩) SA.out ?_
          · intro w' hSw
            obtain ⟨z0, z1, z2, z3, z4, z5⟩ := hSw
            go_simp
          simp only [Act.put, List.setIfInBounds_toArray, List.set_cons_zero, List.set_cons_succ]
          refine wpAnyU_take (i := 10) (v := .agg #[.int .i64 X, .float .f64 Y, .float .f64 Z]) rfl (by kernel_rfl) (by kernel_rfl) (fun _ _ _ h => by cases h.1) _ (by kernel_rfl) (by kernel_rfl) (Or.inl ⟨by rfl, ?_⟩) SA.out ?_
          · intro w' hSw
            obtain ⟨z0, z1, z2, z3, z4, z5⟩ := hSw
            go_simp
          simp only [Act.put, List.setIfInBounds_toArray, List.set_cons_zero, List.set_cons_succ]
          have xal : Ext wr (wr.alloc (.cells #[.int .i64 X, .float .f64 Y, .float .f64 Z] 66)).drew := ((Ext.refl wr).alloc _ _).drew
          have SB : Hid ((fun w' : World => w'.cell? ⟨wo.heap.size, 1, none⟩ = some v ∧ w'.cell? ⟨w.heap.size, 0, none⟩ = some (.slice (some ⟨b, off, none⟩) ss.length cap) ∧ w'.cell? ⟨b, off + k * 2 + 1, none⟩ = some (.slice (some ⟨bc, oc, none⟩) cs.length cu) ∧ w'.cell? ⟨bc, oc + j * 3, none⟩ = some (.int .i64 X) ∧ w'.cell? ⟨bc, oc + j * 3 + 1, none⟩ = some (.float .f64 Y) ∧ w'.cell? ⟨bc, oc + j * 3 + 2, none⟩ = some (.float .f64 Z)) (wr.alloc (.cells #[.int .i64 X, .float .f64 Y, .float .f64 Z] 66)).drew) := ⟨xal.box SA.out.1, xal.box SA.out.2.1, xal.box SA.out.2.2.1, xal.box SA.out.2.2.2.1, xal.box SA.out.2.2.2.2.1, xal.box SA.out.2.2.2.2.2⟩
          refine wpAnyU_one (i := 11) (by kernel_rfl) rfl (fun K hK => ?_)
          go_simp
          refine hK.out _ _ (fun _ => SB.out) ?_
          clear hK K
          try simp only [Act.put, List.setIfInBounds_toArray, List.set_cons_zero, List.set_cons_succ]
          refine wpAnyU_one (i := 12) (by kernel_rfl) rfl (fun K hK => ?_)
          refine step_append_lies _ (by rfl) (.tmp 34) (.tmp 44) 61 (by rfl) (wo.heap.size + 1) 66 i6 (.agg #[.int .i64 0, .float .f64 0, .float .f64 0]) 3 24 Tryz.underlying61 hi6 hx0 hx1 hx2 rfl (by decide) v j (flat (cs.take j)) (by rfl) ((HVO.out.alloc _).drew) ⟨wr.heap.size, 0, none⟩ 1 1 (c3v (X, Y, Z)) (by rfl) (by rfl) HNW.out (c3v_one _) (by omega) (by unfold maxLen; omega) (by omega) (by simp; omega) (wr.heap.size + 1) (by simp) ?_
          intro g5 cap5 w5 hown5 hgrow5 hat5 hlt5
          have hno : ∀ c, c < wo.heap.size + 1 → v.ownBlock ≠ some c := fun c hc e => by have := hov.out c e; omega
          have hk5 : ∀ c, c < wo.heap.size + 1 → w5.heap[c]? = wr.heap[c]? := fun c hc => (hgrow5.block c (by simp; omega) (fun e => hno c hc e.symm)).trans (xal.bl.block c (by omega))
          have ck : ∀ {c o x}, c < wo.heap.size + 1 → wr.cell? ⟨c, o, none⟩ = some x → w5.cell? ⟨c, o, none⟩ = some x := fun {c o x} hc hx => (World.cell?_of_block (w := wr) (a := ⟨c, o, none⟩) (hk5 c hc)).trans hx
          have S5 : Hid ((fun w' : World => w'.cell? ⟨wo.heap.size, 1, none⟩ = some v ∧ w'.cell? ⟨w.heap.size, 0, none⟩ = some (.slice (some ⟨b, off, none⟩) ss.length cap) ∧ w'.cell? ⟨b, off + k * 2 + 1, none⟩ = some (.slice (some ⟨bc, oc, none⟩) cs.length cu) ∧ w'.cell? ⟨bc, oc + j * 3, none⟩ = some (.int .i64 X) ∧ w'.cell? ⟨bc, oc + j * 3 + 1, none⟩ = some (.float .f64 Y) ∧ w'.cell? ⟨bc, oc + j * 3 + 2, none⟩ = some (.float .f64 Z)) w5) := ⟨ck (by omega) SA.out.1, ck (by omega) SA.out.2.1, ck (by omega) SA.out.2.2.1, ck (by omega) SA.out.2.2.2.1, ck (by omega) SA.out.2.2.2.2.1, ck (by omega) SA.out.2.2.2.2.2⟩
          refine hK.out _ _ (fun _ => S5.out) ?_
          clear hK K
          try simp only [Act.put, List.setIfInBounds_toArray, List.set_cons_zero, List.set_cons_succ]
          have c5 : w5.cell? ⟨wo.heap.size, 1, none⟩ = some v := S5.out.1
          have f5 : ∀ o, w5.frozen? ⟨wo.heap.size, o, none⟩ = false := fun o => (World.frozen?_of_block (w := wr) (a := ⟨wo.heap.size, o, none⟩) (hk5 wo.heap.size (by omega))).trans (HVF.out o)
          have f51 := f5 1
          have hs5 : wr.heap.size + 1 ≤ w5.heap.size := by have := hgrow5.size; simpa using this
          have HEND : Hid (Bel wo (w5.setCell ⟨wo.heap.size, 1, none⟩ (.slice (some ⟨g5, 0, none⟩) (j + 1) cap5)) ∧ (w5.setCell ⟨wo.heap.size, 1, none⟩ (.slice (some ⟨g5, 0, none⟩) (j + 1) cap5)).cell? ⟨wo.heap.size, 0, none⟩ = some (.int .i64 D) ∧ (w5.setCell ⟨wo.heap.size, 1, none⟩ (.slice (some ⟨g5, 0, none⟩) (j + 1) cap5)).cell? ⟨wo.heap.size, 1, none⟩ = some (.slice (some ⟨g5, 0, none⟩) (j + 1) cap5) ∧ (∀ o, (w5.setCell ⟨wo.heap.size, 1, none⟩ (.slice (some ⟨g5, 0, none⟩) (j + 1) cap5)).frozen? ⟨wo.heap.size, o, none⟩ = false) ∧ (w5.setCell ⟨wo.heap.size, 1, none⟩ (.slice (some ⟨g5, 0, none⟩) (j + 1) cap5)).ownsRow (wo.heap.size + 1) 66 3 (.slice (some ⟨g5, 0, none⟩) (j + 1) cap5) (j + 1) (flat (cs.take (j + 1)))) := by
            refine ⟨⟨?_, ?_, ?_, ?_, fun c hc => ?_⟩, ?_, World.cell?_setCell_same _ _ _ c5, fun o => by rw [World.frozen?_setCell]; exact f5 o, ?_⟩
            · exact hgrow5.os.trans HBV.out.os
            · exact hgrow5.tape.trans HBV.out.tape
            · exact hgrow5.output.trans HBV.out.output
            · simp [World.setCell]; omega
            · exact (Below.heap_setCell _ _ _ _ (by show c ≠ wo.heap.size; omega)).trans ((hk5 c (by omega)).trans (HBV.out.block c hc))
            · rw [World.cell?_setCell_other _ _ _ _ (by intro e; simp only [Addr.mk.injEq] at e; omega)]
              exact ck (by omega) HV0.out
            · rw [HTK.out]
              refine own_far hown5 (fun e => ?_)
              have := own_lo hown5 (by omega)
              simp [Value.ownBlock] at e
              omega
          clear hown5 hgrow5 hat5 hlt5 f5 hk5 hno xal
          refine wpAnyU_take (i := 13) (v := .pointer (some ⟨wo.heap.size, 1, none⟩)) rfl (by kernel_rfl) (by kernel_rfl) (fun _ _ _ h => by cases h.1) _ (by kernel_rfl) (by kernel_rfl) (Or.inl ⟨by rfl, ?_⟩) S5.out ?_
          · intro w' hSw
            obtain ⟨z0, z1, z2, z3, z4, z5⟩ := hSw
            go_simp
          simp only [Act.put, List.setIfInBounds_toArray, List.set_cons_zero, List.set_cons_succ]
          refine wpAnyU_one (i := 14) (by kernel_rfl) rfl (fun K hK => ?_)
          go_simp
          refine hK.out _ _ (fun h => absurd h (by decide)) ?_
          clear hK K
          try simp only [Act.put, List.setIfInBounds_toArray, List.set_cons_zero, List.set_cons_succ]
          refine wpAnyU_done (by kernel_rfl) ?_ _
          refine ⟨rfl, ?_⟩
          clear SA SB S5
          go_wp2_with fail
          go_roundw
          · exact ⟨j + 1, _, by go_num, by omega, HEND.out⟩
          · simp [intOf]; omega
        · have hjj : j = cs.length := by omega
          have hov := HVO.out
          rw [hjj, List.take_length] at hov
          have HOV := hide hov
          have hd : decide ((j : Int) < (cs.length : Int)) = false := decide_eq_false (by omega)
          have hsv := cell_lt hv1
          have c3 := Bel.box hBv HC.out.b0
          have f3 := (Below.frozen hBv (p := ⟨w.heap.size + 2, 0, none⟩) hsw).trans HC.out.f2
          have HOW := hide (own_bel HC.out.own hBv)
          have hws := HBV.out.size
          clear hov HVO
          obtain ⟨sv, cv, hvE, hvC⟩ : ∃ sv cv, v = .slice sv cs.length cv ∧ (cs = [] ∨ ∃ c, sv = some ⟨c, 0, none⟩ ∧ CRow wr c 0 cs ∧ wo.heap.size + 1 ≤ c ∧ ∀ o, wr.frozen? ⟨c, o, none⟩ = false) := by
            obtain ⟨sv, cv, e1, e2⟩ := own_cells (lo := wo.heap.size + 1) (Nat.le_refl _) HOV.out
            refine ⟨sv, cv, e1, e2.imp id fun ⟨c, q1, q2, q3, q4⟩ => ⟨c, q1, q3, q2, q4⟩⟩
          subst hvE
          have HVC := hide hvC
          clear hvC hvo hBv hvf
          have hnew : ∀ q x, ([.int .i64 D, .slice sv cs.length cv] : List Value)[q]? = some x → (wr.alloc (.cells #[.int .i64 D, .slice sv cs.length cv] 123)).cell? ((⟨wr.heap.size, 0, none⟩ : Addr).add q) = some x := fun q x hq => by
            rw [Addr.add_lit, Nat.zero_add, new_cell wr _ 123 _ rfl q]
            simpa using hq
          have Hnew := hide hnew
          clear hnew
          go_wp2_with (at_builtin; (refine wpList_append_lies _ rfl _ _ 32 rfl (w.heap.size + 3) 123 i0 (.agg #[.int .i64 0, .slice none 0 0]) 2 32 Tryz.underlying32 hi0 hz0 hz1 hz2 rfl (by decide) rv k (flatS U ss k) rfl (HOW.out.alloc _) ⟨wr.heap.size, 0, none⟩ 1 1 [.int .i64 D, .slice sv cs.length cv] rfl rfl Hnew.out (by simp [Value.oneCell']) (by omega) (by unfold maxLen; omega) (by omega) (by simp; omega) (wr.heap.size + 1) (by simp) ?_); intro g9 c9 w9 hown9 hgrow9 hat9 hlt9; have hno9 : ∀ c, c < w.heap.size + 3 → rv.ownBlock ≠ some c := (fun c hc e => by have := HC.out.own.lt c e; omega); have hbk9 : ∀ c, c < w.heap.size + 3 → w9.heap[c]? = wr.heap[c]? := (fun c hc => (hgrow9.block c (by simp; omega) (fun e => hno9 c hc e.symm)).trans (((Below.refl wr.heap.size wr).alloc (Nat.le_refl _) _).block c (by omega))); have c39 : w9.cell? ⟨w.heap.size + 1 + 1, 0, none⟩ = some rv := (World.cell?_of_block (w := wr) (a := ⟨w.heap.size + 2, 0, none⟩) (hbk9 (w.heap.size + 2) (by omega))).trans c3; have f39 : w9.frozen? ⟨w.heap.size + 1 + 1, 0, none⟩ = false := (World.frozen?_of_block (w := wr) (a := ⟨w.heap.size + 2, 0, none⟩) (hbk9 (w.heap.size + 2) (by omega))).trans f3; have k39 : w9.cell? ⟨w.heap.size, 0, none⟩ = some (.slice (some ⟨b, off, none⟩) ss.length cap) := (World.cell?_of_block (w := wr) (a := ⟨w.heap.size, 0, none⟩) (hbk9 w.heap.size (by omega))).trans r0; have HO9 := hide hown9; have HG9 := hide hgrow9; have HA9 := hide hat9; have HK39 := hide k39; clear hown9 hgrow9 hat9 hlt9 hno9 hbk9 k39)
          have HST := hide (HC.out.step HBV.out (.slice sv cs.length cv) (match sv with | some a => a.block | none => 0) g9 c9 ⟨sv, cv, by rw [Hcs.out], by
              rw [Hcs.out]
              rcases HVC.out with h | ⟨c, rfl, _⟩
              · exact Or.inl h
              · exact Or.inr rfl⟩ (fun hne => by
              rw [Hcs.out] at hne ⊢
              obtain ⟨c, rfl, q1, q2, q3⟩ := HVC.out.resolve_left hne
              exact ⟨q1, by show wo.heap.size ≤ c; omega, q3⟩) (by rw [HD.out]; exact HO9.out) HG9.out HA9.out)
          refine ⟨⟨k + 1, _, _, _, by go_num, by omega, HST.out, ?_⟩, ?_⟩
          · rw [World.cell?_setCell_other _ _ _ _ (by intro e; simp only [Addr.mk.injEq] at e; omega)]
            exact HK39.out
          · simp [intOf]; omega
    · have hkk : k = ss.length := by omega
      subst hkk
      have c1 := HC.out.rs0
      have f1 := HC.out.f1
      have c3 := HC.out.b0
      obtain ⟨g, cg, rfl, _⟩ := own_g HC.out.own h0s
      go_wp2
      refine bodyPost_ret (v := .agg #[.slice (some ⟨g, 0, none⟩) ss.length cg]) (by simp [results, Tryz.results72, go_sem, c1]) rfl ⟨g, cg, cb, rfl, HC.out.done h0s _, HC.out.bl.setCell (p := ⟨w.heap.size + 1, 0, none⟩) (by show _ ≤ w.heap.size + 1; omega) _⟩
end Go.Proofs.YtfhcpicddegblaaGreat
namespace Go.Proofs.YtfhcpicddegblaaGreat
open Go.ChangeShapes Go.RowKit Go.Shelf
set_option linter.unusedSimpArgs false
set_option linter.unusedVariables false

attribute [local go_sem] Oper.semAt_some

theorem zero168 : Tryz.zeroCells168 = Array.replicate 4096 (.bool false) := by kernel_rfl
theorem zero168_get (j : Nat) (hj : j < 4096) : Tryz.zeroCells168[j]? = some (.bool false) := by
  rw [zero168, Array.getElem?_replicate, if_pos hj]
/-- The marks of the places that have come. -/
structure Mk (W : World) (Bs : Nat) (L : List Int) : Prop where
  at_ : ∀ j : Nat, j < 4096 → W.cell? ⟨Bs, j, none⟩ = some (.bool (decide ((j : Int) ∈ L)))
  fz : ∀ j : Nat, j < 4096 → W.frozen? ⟨Bs, j, none⟩ = false
theorem Mk.kept {W W' : World} {Bs : Nat} {L : List Int} {row : Option Nat} (h : Mk W Bs L) (hg : W.grownBy W' row) (hr : ∀ r, row = some r → ∃ o : Obj, W.heap[r]? = some o ∧ o.isCells = false) : Mk W' Bs L :=
  ⟨fun j hj => cell_kept (h.at_ j hj) hg hr, fun j hj => (frozen_kept (h.at_ j hj) hg hr).trans (h.fz j hj)⟩
theorem Mk.other {W : World} {Bs B o : Nat} {L : List Int} (h : Mk W Bs L) (hB : B ≠ Bs) (v : Value) : Mk (W.setCell ⟨B, o, none⟩ v) Bs L :=
  ⟨fun j hj => (World.cell?_of_block (Below.heap_setCell _ _ _ Bs (fun e => hB (show B = Bs from e.symm)))).trans (h.at_ j hj), fun j hj => (World.frozen?_setCell _ _ _ _).trans (h.fz j hj)⟩
theorem Mk.mark {W : World} {Bs : Nat} {L : List Int} (h : Mk W Bs L) (k : Nat) (hk : k < 4096) : Mk (W.setCell ⟨Bs, k, none⟩ (.bool true)) Bs (L ++ [(k : Int)]) := by
  refine ⟨fun j hj => ?_, fun j hj => (World.frozen?_setCell _ _ _ _).trans (h.fz j hj)⟩
  by_cases e : j = k
  · subst e
    rw [World.cell?_setCell_same' _ _ _ (by rw [h.at_ j hj]; rfl)]
    simp
  · rw [show (W.setCell ⟨Bs, k, none⟩ (.bool true)).cell? ⟨Bs, j, none⟩ = W.cell? ⟨Bs, j, none⟩ from World.cell?_setCell_other _ _ _ _ (fun q => e (by cases q; rfl)), h.at_ j hj]
    have : ((j : Int) ∈ L ++ [(k : Int)]) ↔ ((j : Int) ∈ L) := by
      simp only [List.mem_append, List.mem_singleton]
      exact ⟨fun q => q.elim id (fun q => absurd (by omega) e), Or.inl⟩
    simp only [this]

/-- The world where the loop begins. -/
structure DSt (w W0 : World) : Prop where
  size : W0.heap.size = w.heap.size + 4
  res : W0.cell? ⟨w.heap.size + 1, 0, none⟩ = some (.bool false)
  resF : W0.frozen? ⟨w.heap.size + 1, 0, none⟩ = false
  mrk : Mk W0 (w.heap.size + 1 + 1) []
  bl : Below w.heap.size w W0
theorem DSt.start (w : World) (V : Array Value) : DSt w ((((w.alloc (.cells V 83)).alloc (.cells #[.bool false] 4)).alloc (.cells Tryz.zeroCells168 168)).alloc (.cells V 83)) := by
  have hb1 : Below w.heap.size w (w.alloc (.cells V 83)) := (Below.refl _ w).alloc (Nat.le_refl _) _
  have hb2 : Below w.heap.size w ((w.alloc (.cells V 83)).alloc (.cells #[.bool false] 4)) := hb1.alloc (by simp) _
  have hb3 : Below w.heap.size w (((w.alloc (.cells V 83)).alloc (.cells #[.bool false] 4)).alloc (.cells Tryz.zeroCells168 168)) := hb2.alloc (by simp; omega) _
  have c1 : ((w.alloc (.cells V 83)).alloc (.cells #[.bool false] 4)).cell? ⟨w.heap.size + 1, 0, none⟩ = some (.bool false) := new_cell _ _ 4 _ (by simp) 0
  have f1 : ((w.alloc (.cells V 83)).alloc (.cells #[.bool false] 4)).frozen? ⟨w.heap.size + 1, 0, none⟩ = false := frozen_nw _ _ 4 _ 0 (by simp)
  have c2 : ∀ j, j < 4096 → (((w.alloc (.cells V 83)).alloc (.cells #[.bool false] 4)).alloc (.cells Tryz.zeroCells168 168)).cell? ⟨w.heap.size + 1 + 1, j, none⟩ = some (.bool false) := fun j hj => (new_cell _ _ 168 _ (by simp) j).trans (zero168_get j hj)
  have f2 : ∀ j, j < 4096 → (((w.alloc (.cells V 83)).alloc (.cells #[.bool false] 4)).alloc (.cells Tryz.zeroCells168 168)).frozen? ⟨w.heap.size + 1 + 1, j, none⟩ = false := fun j _ => frozen_nw _ _ 168 _ j (by simp)
  exact ⟨by simp, cell_al _ (cell_al _ c1), frozen_al _ (cell_al _ c1) (frozen_al _ c1 f1), ⟨fun j hj => by rw [cell_al _ (c2 j hj)]; simp, fun j hj => frozen_al _ (c2 j hj) (f2 j hj)⟩, hb3.alloc (by simp; omega) _⟩

set_option maxRecDepth 100000 in
set_option maxHeartbeats 1000000 in
theorem differ_in (n : Nat) (hn : 3 ≤ n) (xs ss : List Int) (off : Int) (w : World) (h4 : xs.length ≤ 4) (hl : ss.length = xs.length) (hr : InR xs xs.length) (hp : prod xs ≤ 4096) (hss : InS ss ss.length) (ho : 0 ≤ off ∧ off ≤ 4096) (hPr : ∀ x ∈ offsL xs ss off, 0 ≤ x ∧ x < 4096) :
    CallsIn Fence.wide n Tryz.prog 79 #[.agg (vw xs ss off)] w fun e w' => e = .returned (.bool (decide (offsL xs ss off).Nodup)) ∧ Below w.heap.size w w' := by
  have hpl := hide (fun n W => placesF_in n xs ss off W)
  have hst := hide (placesK (n - 1) (w.heap.size + 1 + 1 + 1) xs ss off h4 hl hr hp hss ho hPr (((w.alloc (.cells (vw xs ss off) 83)).alloc (.cells #[.bool false] 4)).alloc (.cells Tryz.zeroCells168 168)) (by simp))
  have hdd : ∀ k : Nat, (Fence.wide.depth.isSome = true → 1 ≤ k) := fun k h => by cases h
  have X0 := hide (DSt.start w (vw xs ss off))
  clear hPr hss hp hr ho hl h4
  generalize offsL xs ss off = OL at *
  unfold vw at hpl X0 hst ⊢
  generalize xs.getD 0 0 = a0 at *
  generalize xs.getD 1 0 = a1 at *
  generalize xs.getD 2 0 = a2 at *
  generalize xs.getD 3 0 = a3 at *
  generalize ss.getD 0 0 = s0 at *
  generalize ss.getD 1 0 = s1 at *
  generalize ss.getD 2 0 = s2 at *
  generalize ss.getD 3 0 = s3 at *
  refine callsIn_of_wp_marks Tryz.func79 rfl trivial ?_ rfl
  simp only [Tryz.ntmps79, List.size_toArray, List.length_cons, List.length_nil, Nat.reduceAdd, Nat.reduceSub, Array.replicate_succ, Array.replicate_zero, List.push_toArray, List.append_toArray, List.nil_append, List.cons_append]
  gi_wp2
  refine ⟨trivial, hdd _, ?_⟩
  refine (hpl.out _ _).mono ?_
  rintro e w' ⟨rfl, rfl⟩
  clear hpl
  have h1 : 1 ≤ n := by omega
  gi_wp2
  generalize hW0 : World.alloc (((w.alloc _).alloc _).alloc _) _ = W0 at X0 hst ⊢
  clear hW0
  have hsz := X0.out.size
  refine wpIn_rangeFunc_ownF rfl h1 (gf := 119) (lb := #[.pointer (some ⟨w.heap.size + 1 + 1 + 1, 0, none⟩)]) rfl trivial (enters_of Tryz.func119 (by kernel_rfl) rfl)
    hst.out (fun h k => KC.trans h k) (fun W l o o' h1 h2 h3 h4 => kc_put W l o o' h1 h2 h3 h4) (Below.refl _ _) (fun _ => rfl)
    (fun pre W => ((plv pre).Nodup ∧ W.cell? ⟨w.heap.size + 1, 0, none⟩ = some (.bool false) ∧ W.frozen? ⟨w.heap.size + 1, 0, none⟩ = false ∧ Mk W (w.heap.size + 1 + 1) (plv pre)) ∧ Below w.heap.size w W)
    (fun c pre W => (c = .ret ∧ ¬ (plv pre).Nodup ∧ W.cell? ⟨w.heap.size + 1, 0, none⟩ = some (.bool false)) ∧ Below w.heap.size w W)
    (OwnFrom.and (Own.from (fun s A B row hs hg hr => ⟨hs.1, cell_kept hs.2.1 hg hr, (frozen_kept hs.2.1 hg hr).trans hs.2.2.1, hs.2.2.2.kept hg hr⟩) _) (ownFrom_below (Nat.le_refl _) (by omega)))
    (fun c => OwnFrom.and (Own.from (fun s A B row hs hg hr => ⟨hs.1, hs.2.1, cell_kept hs.2.2 hg hr⟩) _) (ownFrom_below (Nat.le_refl _) (by omega)))
    ⟨⟨by simp [plv], X0.out.res, X0.out.resF, X0.out.mrk⟩, X0.out.bl⟩
    (fun x => { tmps := #[.agg #[.int .i64 xs.length, .int .i64 a0, .int .i64 a1, .int .i64 a2, .int .i64 a3, .int .i64 s0, .int .i64 s1, .int .i64 s2, .int .i64 s3, .int .i64 off], .pointer (some ⟨w.heap.size, 0, none⟩), .pointer (some ⟨w.heap.size + 1, 0, none⟩), .pointer (some ⟨w.heap.size + 1 + 1, 0, none⟩), .int .i64 x.1, .agg #[.int .i64 xs.length, .int .i64 a0, .int .i64 a1, .int .i64 a2, .int .i64 a3, .int .i64 s0, .int .i64 s1, .int .i64 s2, .int .i64 s3, .int .i64 off], .func (.func 119) #[] #[.pointer (some ⟨w.heap.size + 1 + 1 + 1, 0, none⟩)], .int .i64 x.1, undef, undef, undef, undef, undef], defers := [] }) ?assign ?body ?done ?stop
  case assign =>
    intro l x W K hK
    gi_wp2
    exact hK
  case body =>
    rintro l pre ⟨x, hx⟩ W ⟨⟨hnd, hcr, hfr, hmk⟩, hB⟩ _
    obtain ⟨k, rfl⟩ : ∃ k : Nat, x = k := ⟨x.toNat, by omega⟩
    have hk : k < 4096 := by omega
    have q0 := hmk.at_ k hk
    have q1 := hmk.fz k hk
    by_cases hin : (k : Int) ∈ plv pre
    · rw [decide_eq_true hin] at q0
      gi_wp2
      exact ⟨KeepsOthers.setCell _ _ _, ⟨rfl, fun h => by
        rw [plv_append] at h
        exact (List.nodup_append.1 h).2.2 _ hin _ (List.mem_singleton.2 rfl) rfl, World.cell?_setCell_same' _ _ _ (by rw [hcr]; rfl)⟩, hB.setCell (p := ⟨w.heap.size + 1, 0, none⟩) (by simp) _⟩
    · rw [decide_eq_false hin] at q0
      gi_wp2
      refine ⟨KeepsOthers.setCell _ _ _, KC.setCell W (p := ⟨w.heap.size + 1 + 1, k, none⟩) (by show w.heap.size + 1 + 1 < _; omega) _, ⟨?_, ?_, ?_, ?_⟩, hB.setCell (p := ⟨w.heap.size + 1 + 1, k, none⟩) (by show _ ≤ w.heap.size + 1 + 1; omega) _⟩
      · rw [plv_append]
        refine List.nodup_append.2 ⟨hnd, by simp [plv], fun a ha b hb e => ?_⟩
        have : b = (k : Int) := by simpa [plv] using hb
        subst this
        subst e
        exact hin ha
      · exact (World.cell?_of_block (Below.heap_setCell _ _ _ _ (by show w.heap.size + 1 ≠ w.heap.size + 1 + 1; omega))).trans hcr
      · exact (World.frozen?_setCell _ _ _ _).trans hfr
      · rw [plv_append]; exact hmk.mark k hk
  case done =>
    rintro D ys W hD hS ⟨⟨hnd, hcr, hfr, hmk⟩, hB⟩ hK
    gi_wp2
    have hK' := (KeepsOthers.setCell W ⟨w.heap.size + 1, 0, none⟩ (.bool true)).same D _ hK rfl
    refine ⟨by simp, .inl ⟨_, _, rfl, run_takeDeferred hK', ?_⟩⟩
    have hc5 := cell_kept (World.cell?_setCell_same' W ⟨w.heap.size + 1, 0, none⟩ (.bool true) (by rw [hcr]; rfl)) (grownBy_putObj' _ D (.deferred none)) (fun r e => by cases e; exact ⟨_, hK', rfl⟩)
    refine ⟨.bool true, ?_, by rw [decide_eq_true (by rw [← hS]; exact hnd)], (hB.setCell (p := ⟨w.heap.size + 1, 0, none⟩) (by simp) _).trans (belowK_b (w := w) (Nat.le_refl _) _ D _ _ (by omega) hK' rfl rfl)⟩
    simp [results, Tryz.f79, go_sem, hc5]
  case stop =>
    rintro D c pre W hD hpre ⟨⟨rfl, hnd, hcr⟩, hB⟩ hK
    gi_wp2
    refine ⟨by simp, .inl ⟨_, _, rfl, run_takeDeferred hK, ?_⟩⟩
    have hc5 := cell_kept hcr (grownBy_putObj' _ D (.deferred none)) (fun r e => by cases e; exact ⟨_, hK, rfl⟩)
    refine ⟨.bool false, ?_, by rw [decide_eq_false (fun h => hnd (List.Sublist.nodup hpre.sublist h))], hB.trans (belowK_b (w := w) (Nat.le_refl _) W D _ _ (by omega) hK rfl rfl)⟩
    simp [results, Tryz.f79, go_sem, hc5]
end Go.Proofs.YtfhcpicddegblaaGreat
namespace Go.Proofs.YtfhcpicddegblaaGreat
open Go.ChangeShapes Go.RowKit
set_option linter.unusedSimpArgs false
set_option linter.unusedVariables false

/-- A view that may be written. -/
abbrev WrV (xs ss : List Int) (off : Int) : Prop := ValidV xs ss off ∧ (offsL xs ss off).Nodup
def dcWrV (xs ss : List Int) (off : Int) : Bool := decide (WrV xs ss off)
theorem dcWrV_t {xs ss : List Int} {off : Int} (h : WrV xs ss off) : dcWrV xs ss off = true := decide_eq_true h
theorem dcWrV_f {xs ss : List Int} {off : Int} (h : ¬ WrV xs ss off) : dcWrV xs ss off = false := decide_eq_false h

theorem differ_any {xs ss : List Int} {off : Int} (hv : ValidV xs ss off) (w : World) :
    Calls Tryz.prog 79 #[.agg (vw xs ss off)] w fun e w' => e = .returned (.bool (decide (offsL xs ss off).Nodup)) ∧ Bel w w' :=
  callsIn_wide.1 (differ_in 3 (Nat.le_refl _) xs ss off w hv.1.1 hv.2.1 hv.1.2.1 hv.1.2.2 hv.2.2.2.1 hv.2.2.1 (offs_in hv))

theorem info4 : (Tryz.prog.info? 4).map (fun i => (i.zero, i.size, i.bytes)) = some (some (.bool false), 1, 1) := by kernel_rfl
theorem make_marks (W : World) : ∃ MC : Array Value, (∀ j, j < 4096 → MC[j]? = some (.bool false)) ∧ (Instr.makeSlice 124 (.int .i64 4096) (.int .i64 4096)).run Tryz.prog W = .ok (.slice (some ⟨W.heap.size, 0, none⟩) 4096 4096) (W.alloc (.cells MC 4)) := by
  refine ⟨madeCells #[.bool false] 4096, fun j hj => ?_, run_make_row' (P := Tryz.prog) 124 4 (.bool false) 1 Tryz.underlying124 info4 rfl .i64 .i64 4096 (by omega) (by omega) W⟩
  simp [madeCells, hj, Nat.mod_one]

/-- The world of the loop. -/
structure MR (w wr : World) (Bm : Nat) (sa : Option Addr) (L : List Int) (k : Nat) : Prop where
  nd : (L.take k).Nodup
  mrk : Mk wr Bm (L.take k)
  own : OwnI wr (Bm + 1) sa L
  bl : Below w.heap.size w wr
theorem MR.step {w wr : World} {Bm : Nat} {sa : Option Addr} {L : List Int} {k m : Nat} (h : MR w wr Bm sa L k) (hk : k < L.length) (hm : L.getD k 0 = (m : Int)) (hm4 : m < 4096) (hn : ¬ ((m : Int) ∈ L.take k)) (hw : w.heap.size ≤ Bm) : MR w (wr.setCell ⟨Bm, m, none⟩ (.bool true)) Bm sa L (k + 1) := by
  have e := take_snoc L k hk
  rw [hm] at e
  refine ⟨?_, ?_, ?_, h.bl.setCell (p := ⟨Bm, m, none⟩) hw _⟩
  · rw [e]
    refine List.nodup_append.2 ⟨h.nd, by simp, fun a ha b hb q => ?_⟩
    have : b = (m : Int) := by simpa using hb
    subst this
    subst q
    exact hn ha
  · rw [e]; exact h.mrk.mark m hm4
  · rcases h.own with h0 | ⟨g, h1, h2, h3, h4⟩
    · exact Or.inl h0
    · refine Or.inr ⟨g, h1, h2, fun j hj => ?_, fun o => (World.frozen?_setCell _ _ _ _).trans (h4 o)⟩
      exact (World.cell?_of_block (Below.heap_setCell _ _ _ g (by show g ≠ Bm; omega))).trans (h3 j hj)

set_option maxRecDepth 100000 in
set_option maxHeartbeats 2000000 in
theorem sWR_any {w : World} {vS vT : Value} {xs ss : List Int} (hS : Ints w vS xs) (hT : Ints w vT ss) (off : Int) (lx : xs.length ≤ 1048576) (ls : ss.length ≤ 1048576) :
    Calls Tryz.prog 28 #[.agg #[vS, vT, .int .i64 off]] w fun e w' => e = .returned (.bool (dcWrV xs ss off)) ∧ Bel w w' := by
  have x0 : Ext w (w.alloc (.cells #[vS, vT, .int .i64 off] 39)) := (Ext.refl w).alloc _ _
  have X0 := hide x0.bl
  have HS := hide (hS.ext x0)
  have HT := hide (hT.ext x0)
  have n1 := fun j => new_cell w #[vS, vT, .int .i64 off] 39 w.heap.size rfl j
  have k0 := n1 0
  have k1 := n1 1
  have k2 := n1 2
  clear n1 x0
  obtain ⟨sa, cap, rfl, _⟩ := hS
  obtain ⟨ta, dap, rfl, _⟩ := hT
  go_enter Tryz.func28, Tryz.ntmps28
  go_wp2_with fail
  generalize hW0 : w.alloc (.cells #[.slice sa xs.length cap, .slice ta ss.length dap, .int .i64 off] 39) = W0 at X0 HS HT k0 k1 k2 ⊢
  clear hW0
  refine (sVV_any HS.out HT.out off lx ls).mono ?_
  rintro e W1 ⟨rfl, B1⟩
  have X1 := hide (X0.out.trans (B1.mono X0.out.size))
  have HS1 := hide (HS.out.below B1)
  have HT1 := hide (HT.out.below B1)
  have d0 := Bel.box B1 k0
  have d1 := Bel.box B1 k1
  have d2 := Bel.box B1 k2
  clear k0 k1 k2 X0 B1 HS HT
  by_cases hv : ValidV xs ss off
  · rw [dcValidV_t hv]
    have hin := hide (offs_in hv)
    have Hv := hide hv
    obtain ⟨MC, hMC, hmk⟩ := make_marks W1
    have M2 : Hid (Mk (W1.alloc (.cells MC 4)) W1.heap.size []) := ⟨fun j hj => (new_cell W1 MC 4 _ rfl j).trans ((hMC j hj).trans (by simp)), fun j _ => frozen_nw W1 MC 4 _ j rfl⟩
    have x2 : Ext W1 (W1.alloc (.cells MC 4)) := (Ext.refl W1).alloc _ _
    have hlen := offs_len hv
    have HP := hide (l2Offsets_any (HS1.out.ext x2) (HT1.out.ext x2) off hv)
    have X2 := hide (X1.out.trans (x2.bl.mono X1.out.size))
    have q0 := x2.box d0
    have q1 := x2.box d1
    have q2 := x2.box d2
    have hs2 : Hid ((W1.alloc (.cells MC 4)).heap.size = W1.heap.size + 1) := by show _ = _; simp
    have hw1 := hide (X1.out.size)
    have hWr : Hid ((dcWrV xs ss off) = decide (offsL xs ss off).Nodup) := by
      show _ = _
      by_cases h : (offsL xs ss off).Nodup
      · rw [decide_eq_true h, dcWrV_t (show WrV xs ss off from ⟨hv, h⟩)]
      · rw [decide_eq_false h, dcWrV_f (fun q : WrV xs ss off => h q.2)]
    clear hv hMC x2 HS1 HT1 X1 Hv
    generalize offsL xs ss off = L at *
    go_wp2_with fail
    generalize hW2 : W1.alloc (.cells MC 4) = W2 at *
    clear hW2
    refine HP.out.mono ?_
    clear HP
    rintro e W3 ⟨s3, c3, rfl, own3, B3⟩
    have S0 : Hid (MR w W3 W1.heap.size s3 L 0) := ⟨by simp, ⟨fun j hj => by rw [Bel.box B3 (M2.out.at_ j hj)]; simp, fun j hj => (Below.frozen B3 (cell_lt (M2.out.at_ j hj))).trans (M2.out.fz j hj)⟩, by rw [← hs2.out]; exact own3, X2.out.trans (B3.mono X2.out.size)⟩
    clear hmk q0 q1 q2 d0 d1 d2 B3 own3 M2 X2 hs2
    generalize W1.heap.size = Bm at *
    go_wp2
    go_loopw [5] (fun i wr => ∃ k : Nat, i = .int .i64 k ∧ k ≤ L.length ∧ MR w wr Bm s3 L k) (fun i _ => L.length - (intOf i).toNat)
    case atStart => exact ⟨0, rfl, by omega, S0.out⟩
    case round =>
      obtain ⟨k, rfl, hk, hM⟩ := hrel
      have HM := hide hM
      clear S0
      by_cases hlt : k < L.length
      · rcases hM.own with h0 | ⟨g, rfl, hg, hrow, _⟩
        · rw [h0] at hlt; simp at hlt
        have hmem : L.getD k 0 ∈ L := by
          rw [List.getD_eq_getElem?_getD, List.getElem?_eq_getElem hlt]; exact List.getElem_mem _
        have hr4 := hin.out _ hmem
        have r0 := hrow k hlt
        rw [Nat.zero_add] at r0
        obtain ⟨m, hm⟩ : ∃ m : Nat, L.getD k 0 = (m : Int) := ⟨(L.getD k 0).toNat, by omega⟩
        rw [hm] at r0 hr4
        have hm4 : m < 4096 := by omega
        have r1 := hM.mrk.at_ m hm4
        have r2 := hM.mrk.fz m hm4
        have hk0 : (0 : Int) ≤ (k : Int) := Int.natCast_nonneg _
        have hk1 : (k : Int) < (L.length : Int) := by omega
        have Hm := hide hm
        clear hrow hmem hM hm
        by_cases hin2 : (m : Int) ∈ L.take k
        · have hno : Hid ((dcWrV xs ss off) = false) := hWr.out.trans (decide_eq_false (fun q => by
            have e := take_snoc L k hlt
            rw [Hm.out] at e
            have q2 := List.Sublist.nodup (List.take_sublist (k + 1) L) q
            rw [e] at q2
            exact (List.nodup_append.1 q2).2.2 _ hin2 _ (List.mem_singleton.2 rfl) rfl))
          rw [decide_eq_true hin2] at r1
          clear hin2
          go_wp2
          go_ret
          exact ⟨ret_bool hno.out.symm, HM.out.bl⟩
        · have hst := hide (HM.out.step hlt Hm.out hm4 hin2 hw1.out)
          rw [decide_eq_false hin2] at r1
          clear hin2
          go_wp2
          go_roundw
          · exact ⟨k + 1, by go_num, by omega, hst.out⟩
          · simp [intOf]; omega
      · have hkk : k = L.length := by omega
        have hyes : Hid ((dcWrV xs ss off) = true) := hWr.out.trans (decide_eq_true (by have := hM.nd; rw [hkk, List.take_length] at this; exact this))
        subst hkk
        clear hM
        go_wp2
        go_ret
        exact ⟨ret_bool hyes.out.symm, HM.out.bl⟩
  · have hno : Hid ((dcWrV xs ss off) = false) := decide_eq_false (fun q => hv q.1)
    rw [dcValidV_f hv]
    clear hv
    go_wp2
    go_ret
    exact ⟨ret_bool hno.out.symm, X1.out⟩
end Go.Proofs.YtfhcpicddegblaaGreat
namespace Go.Proofs.YtfhcpicddegblaaGreat
open Go.RowKit Go.ChangeShapes
set_option linter.unusedSimpArgs false
set_option linter.unusedVariables false

theorem l4Type_any {w : World} {v vS vT : Value} {ss : List St} (h : SV w v ss) (st off : Int) (h0 : 0 ≤ st) (h1 : st < ss.length) :
    Calls Tryz.prog 26 #[.agg #[v], .agg #[.int .i64 st, vS, vT, .int .i64 off]] w fun e w' => e = .returned (.int .i64 (ss.getD st.toNat s0).1) ∧ Ext w w' := by
  obtain ⟨k, rfl⟩ : ∃ k : Nat, st = k := ⟨st.toNat, by omega⟩
  have hk : k < ss.length := by omega
  obtain ⟨sa, cap, rfl, h | ⟨b, o, rfl, hr⟩⟩ := h
  · rw [h] at hk; simp at hk
  have q0 := (hr k hk).1
  rw [Int.toNat_natCast]
  generalize (ss.getD k s0).1 = d at q0 ⊢
  have x1 : Ext w (w.alloc (.cells #[.slice (some ⟨b, o, none⟩) ss.length cap] 34)) := (Ext.refl w).alloc _ _
  have x2 := x1.alloc #[.int .i64 k, vS, vT, .int .i64 off] 41
  have q1 := x2.box q0
  have X2 := hide x2
  clear x1 x2 hr
  go_enter Tryz.func26, Tryz.ntmps26
  go_wp2
  go_ret
  exact ⟨rfl, X2.out⟩
end Go.Proofs.YtfhcpicddegblaaGreat
namespace Go.Proofs.YtfhcpicddegblaaGreat
open Go.RowKit
set_option linter.unusedSimpArgs false
set_option linter.unusedVariables false

set_option maxHeartbeats 1000000 in
theorem sPromote_any (a b : Int) (w : World) :
    Calls Tryz.prog 138 #[.int .i64 a, .int .i64 b] w fun e w' => e = .returned (.int .i64 (promL a b)) ∧ w' = w := by
  go_enter Tryz.func138, Tryz.ntmps138
  go_wp2_with (go_at_call 103; refine (l1IsDType_any _ _).mono ?_; rintro e w' ⟨rfl, rfl⟩)
  all_goals go_ret
  all_goals refine ⟨ret_int ?_, rfl⟩
  all_goals go_light
  all_goals (simp only [isDtB, Bool.not_eq_true', Bool.not_eq_false', decide_eq_true_eq, decide_eq_false_iff_not, beq_iff_eq, beq_eq_false_iff_ne, ne_eq] at *; unfold promL; omega)

set_option maxHeartbeats 1000000 in
theorem iPromote_any (a b : Int) (w : World) :
    Calls Tryz.prog 117 #[.int .i64 a, .int .i64 b] w fun e w' => e = .returned (.int .i64 (promL a b)) ∧ w' = w := by
  go_enter Tryz.func117, Tryz.ntmps117
  go_wp2_with (go_at_call 116; refine (isDType_any _ _).mono ?_; rintro e w' ⟨rfl, rfl⟩)
  all_goals go_ret
  all_goals refine ⟨ret_int ?_, rfl⟩
  all_goals go_light
  all_goals (simp only [isDtB, Bool.not_eq_true', Bool.not_eq_false', decide_eq_true_eq, decide_eq_false_iff_not, beq_iff_eq, beq_eq_false_iff_ne, ne_eq] at *; unfold promL; omega)

set_option maxHeartbeats 1000000 in
theorem sCanCast_any (f t r : Int) (w : World) :
    Calls Tryz.prog 108 #[.int .i64 f, .int .i64 t, .int .i64 r] w fun e w' => e = .returned (.bool (castL f t r)) ∧ w' = w := by
  go_enter Tryz.func108, Tryz.ntmps108
  go_wp2_with (first | (go_at_call 103; refine (l1IsDType_any _ _).mono ?_; rintro e w' ⟨rfl, rfl⟩) | (go_at_call 138; refine (sPromote_any _ _ _).mono ?_; rintro e w' ⟨rfl, rfl⟩) | (go_at_call 109; refine (l1Kind_any _ _).mono ?_; rintro e w' ⟨rfl, rfl⟩))
  all_goals go_ret
  all_goals refine ⟨ret_bool ?_, rfl⟩
  all_goals go_light
  all_goals (rw [Bool.eq_iff_iff]; simp only [castL, isDtB, Bool.not_eq_true', Bool.not_eq_false', decide_eq_true_eq, decide_eq_false_iff_not, beq_iff_eq, beq_eq_false_iff_ne, ne_eq, Bool.or_eq_true, Bool.false_eq_true, false_iff, true_iff] at *; have e1 := skind_eq f; have e2 := skind_eq t; omega)

set_option maxHeartbeats 1000000 in
theorem iCanCast_any (f t r : Int) (w : World) :
    Calls Tryz.prog 80 #[.int .i64 f, .int .i64 t, .int .i64 r] w fun e w' => e = .returned (.bool (castL f t r)) ∧ w' = w := by
  go_enter Tryz.func80, Tryz.ntmps80
  go_wp2_with (first | (go_at_call 116; refine (isDType_any _ _).mono ?_; rintro e w' ⟨rfl, rfl⟩) | (go_at_call 117; refine (iPromote_any _ _ _).mono ?_; rintro e w' ⟨rfl, rfl⟩) | (go_at_call 118; refine (kindOf_any _ _).mono ?_; rintro e w' ⟨rfl, rfl⟩))
  all_goals go_ret
  all_goals refine ⟨ret_bool ?_, rfl⟩
  all_goals go_light
  all_goals (rw [Bool.eq_iff_iff]; simp only [castL, isDtB, Bool.not_eq_true', Bool.not_eq_false', decide_eq_true_eq, decide_eq_false_iff_not, beq_iff_eq, beq_eq_false_iff_ne, ne_eq, Bool.or_eq_true, Bool.false_eq_true, false_iff, true_iff] at *; have e1 := skind_eq f; have e2 := skind_eq t; omega)
end Go.Proofs.YtfhcpicddegblaaGreat
namespace Go.Proofs.YtfhcpicddegblaaGreat
open Go.RowKit FL
set_option linter.unusedSimpArgs false
set_option linter.unusedVariables false

theorem valid8 (x : Nat) : validB 8 0 x 0 = true := by
  have : pzB 0 = true := by decide
  simp [validB, this]

set_option maxHeartbeats 1000000 in
theorem round8_any (x : Nat) (w : World) :
    Calls Tryz.prog 112 #[.int .i64 8, .float .f64 x] w fun e w' => e = .returned (.float .f64 x) ∧ w' = w := by
  go_enter Tryz.func112, Tryz.ntmps112
  go_wp2
  go_ret
  exact ⟨rfl, rfl⟩

set_option maxRecDepth 100000 in
set_option maxHeartbeats 1000000 in
theorem iConv8_any (x : Nat) (hx : B64 x) (w : World) :
    Calls Tryz.prog 125 #[.int .i64 8, .int .i64 8, .agg #[.int .i64 0, .float .f64 x, .float .f64 0]] w fun e w' => e = .returned (.agg #[.int .i64 0, .float .f64 x, .float .f64 0]) ∧ Ext w w' := by
  have x0 : Ext w (w.alloc (.cells #[.int .i64 0, .float .f64 x, .float .f64 0] 66)) := (Ext.refl w).alloc _ _
  have x1 : Ext (w.alloc (.cells #[.int .i64 0, .float .f64 x, .float .f64 0] 66)) ((w.alloc (.cells #[.int .i64 0, .float .f64 x, .float .f64 0] 66)).alloc (.cells #[.int .i64 0, .float .f64 0, .float .f64 0] 66)) := (Ext.refl _).alloc _ _
  have X0 := hide (x0.trans x1)
  have n0 := fun j => new_cell w #[.int .i64 0, .float .f64 x, .float .f64 0] 66 w.heap.size rfl j
  have n1 := fun j => new_cell (w.alloc (.cells #[.int .i64 0, .float .f64 x, .float .f64 0] 66)) #[.int .i64 0, .float .f64 0, .float .f64 0] 66 (w.heap.size + 1) (by simp) j
  have k0 := x1.box (n0 0)
  have k1 := x1.box (n0 1)
  have k2 := x1.box (n0 2)
  have m0 := n1 0
  have m1 := n1 1
  have m2 := n1 2
  simp only [List.getElem?_toArray, List.getElem?_cons_zero, List.getElem?_cons_succ] at m0 m1 m2
  clear n0 n1 x0 x1
  have hval := hide (fun W => iValid_any 8 0 x 0 (by unfold I64; omega) hx (by unfold B64; omega) W)
  rw [valid8] at hval
  have hd8 : isDtB 8 = true := by decide
  go_enter Tryz.func125, Tryz.ntmps125
  go_wp2_with (go_at_call 116; refine (isDType_any _ _).mono ?_; rintro e w' ⟨rfl, rfl⟩; rw [hd8])
  generalize ((w.alloc (.cells #[.int .i64 0, .float .f64 x, .float .f64 0] 66)).alloc (.cells #[.int .i64 0, .float .f64 0, .float .f64 0] 66)) = W0 at *
  refine (hval.out _).mono ?_
  rintro e w1 ⟨rfl, x1⟩
  have c0 := x1.box k0
  have c1 := x1.box k1
  have c2 := x1.box k2
  have d0 := x1.box m0
  have d1 := x1.box m1
  have d2 := x1.box m2
  have HX := hide (X0.out.trans x1)
  have fz := fun (q : Nat) => HX.out.unfrozen (b := w.heap.size + 1) (by omega) q
  have hf := fz 0
  have hf1 := fz 1
  have hf2 := fz 2
  clear x1 k0 k1 k2 m0 m1 m2 X0 hval fz
  go_wp2_with fail
  refine bodyPost_ret (v := .agg #[.int .i64 0, .float .f64 x, .float .f64 0]) (by simp [results, Tryz.results125, go_sem, d0, d1, d2]) rfl ⟨rfl, ?_⟩
  exact ((HX.out.setCell (p := ⟨w.heap.size + 1, 0, none⟩) (by show _ ≤ w.heap.size + 1; omega) _).setCell (p := ⟨w.heap.size + 1, 1, none⟩) (by show _ ≤ w.heap.size + 1; omega) _).setCell (p := ⟨w.heap.size + 1, 2, none⟩) (by show _ ≤ w.heap.size + 1; omega) _

set_option maxRecDepth 100000 in
set_option maxHeartbeats 1000000 in
theorem sConv8_any (x : Nat) (hx : B64 x) (w : World) :
    Calls Tryz.prog 73 #[.int .i64 8, .int .i64 8, .agg #[.int .i64 0, .float .f64 x, .float .f64 0]] w fun e w' => e = .returned (.agg #[.int .i64 0, .float .f64 x, .float .f64 0]) ∧ Ext w w' := by
  have x0 : Ext w (w.alloc (.cells #[.int .i64 0, .float .f64 x, .float .f64 0] 66)) := (Ext.refl w).alloc _ _
  have x1 : Ext (w.alloc (.cells #[.int .i64 0, .float .f64 x, .float .f64 0] 66)) ((w.alloc (.cells #[.int .i64 0, .float .f64 x, .float .f64 0] 66)).alloc (.cells #[.int .i64 0, .float .f64 0, .float .f64 0] 66)) := (Ext.refl _).alloc _ _
  have X0 := hide (x0.trans x1)
  have n0 := fun j => new_cell w #[.int .i64 0, .float .f64 x, .float .f64 0] 66 w.heap.size rfl j
  have n1 := fun j => new_cell (w.alloc (.cells #[.int .i64 0, .float .f64 x, .float .f64 0] 66)) #[.int .i64 0, .float .f64 0, .float .f64 0] 66 (w.heap.size + 1) (by simp) j
  have k0 := x1.box (n0 0)
  have k1 := x1.box (n0 1)
  have k2 := x1.box (n0 2)
  have m0 := n1 0
  have m1 := n1 1
  have m2 := n1 2
  simp only [List.getElem?_toArray, List.getElem?_cons_zero, List.getElem?_cons_succ] at m0 m1 m2
  clear n0 n1 x0 x1
  have hval := hide (fun W => sValid_any 8 0 x 0 hx (by unfold B64; omega) W)
  rw [valid8] at hval
  have hd8 : isDtB 8 = true := by decide
  have hk8 : skindL 8 = 2 := by decide
  go_enter Tryz.func73, Tryz.ntmps73
  go_wp2_with fail
  generalize ((w.alloc (.cells #[.int .i64 0, .float .f64 x, .float .f64 0] 66)).alloc (.cells #[.int .i64 0, .float .f64 0, .float .f64 0] 66)) = W0 at *
  refine (hval.out _).mono ?_
  rintro e w1 ⟨rfl, x1⟩
  have c0 := x1.box k0
  have c1 := x1.box k1
  have c2 := x1.box k2
  have d0 := x1.box m0
  have d1 := x1.box m1
  have d2 := x1.box m2
  have HX := hide (X0.out.trans x1)
  have fz := fun (q : Nat) => HX.out.unfrozen (b := w.heap.size + 1) (by omega) q
  have hf := fz 0
  have hf1 := fz 1
  have hf2 := fz 2
  clear x1 k0 k1 k2 m0 m1 m2 X0 hval fz
  go_wp2_with (first | (go_at_call 103; refine (l1IsDType_any _ _).mono ?_; rintro e w' ⟨rfl, rfl⟩; rw [hd8]) | (go_at_call 109; refine (l1Kind_any _ _).mono ?_; rintro e w' ⟨rfl, rfl⟩; rw [hk8]) | (go_at_call 112; refine (round8_any _ _).mono ?_; rintro e w' ⟨rfl, rfl⟩))
  refine bodyPost_ret (v := .agg #[.int .i64 0, .float .f64 x, .float .f64 0]) (by simp [results, Tryz.results73, go_sem, d0, d1, d2]) rfl ⟨rfl, ?_⟩
  exact ((HX.out.setCell (p := ⟨w.heap.size + 1, 0, none⟩) (by show _ ≤ w.heap.size + 1; omega) _).setCell (p := ⟨w.heap.size + 1, 1, none⟩) (by show _ ≤ w.heap.size + 1; omega) _).setCell (p := ⟨w.heap.size + 1, 2, none⟩) (by show _ ≤ w.heap.size + 1; omega) _
end Go.Proofs.YtfhcpicddegblaaGreat
