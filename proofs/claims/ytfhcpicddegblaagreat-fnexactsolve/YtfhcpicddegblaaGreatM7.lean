import Derived.Test.YtfhcpicddegblaaGreatM5
import Derived.BigRegionIn
import Derived.Test.YtfhcpicddegblaaGreatM6
import Derived.OwnWalk
namespace Go.Proofs.YtfhcpicddegblaaGreat
open Go.ChangeShapes Go.RowKit Go.Shelf
set_option linter.unusedSimpArgs false
set_option linter.unusedVariables false

attribute [local go_sem] Oper.semAt_some

/-- The blocks with p are kept. -/
structure KB (p : Nat → Prop) (A B : World) : Prop where
  size : A.heap.size ≤ B.heap.size
  keep : ∀ k o, p k → A.heap[k]? = some o → o.isCells = true → B.heap[k]? = some o
theorem KB.refl (p : Nat → Prop) (A : World) : KB p A A := ⟨Nat.le_refl _, fun _ _ _ h _ => h⟩
theorem KB.trans {p : Nat → Prop} {A B C : World} (x : KB p A B) (y : KB p B C) : KB p A C := ⟨Nat.le_trans x.size y.size, fun k o hb h hc => y.keep k o hb (x.keep k o hb h hc) hc⟩
theorem KB.cell {p : Nat → Prop} {A B : World} (x : KB p A B) {k o : Nat} {v : Value} (hb : p k) (h : A.cell? ⟨k, o, none⟩ = some v) : B.cell? ⟨k, o, none⟩ = some v := by
  obtain ⟨ob, h1, h2⟩ := cells_of_cell h
  exact (World.cell?_of_block (w := A) (a := ⟨k, o, none⟩) ((x.keep k ob hb h1 h2).trans h1.symm)).trans h
theorem kb_put {p : Nat → Prop} {w : World} (W : World) (l : Nat) (o o' : Obj) (_ : w.heap.size ≤ l) (h : W.heap[l]? = some o) (hc : o.isCells = false) (_ : o.isWalk = false) : KB p W (W.putObj l o') := by
  have g := grownBy_putObj' W l o'
  refine ⟨g.size, fun k o2 hb h2 hc2 => ?_⟩
  have hk : k < W.heap.size := (Array.getElem?_eq_some_iff.1 h2).1
  have hne : k ≠ l := fun e => by
    subst e
    rw [h] at h2
    cases h2
    rw [hc] at hc2
    cases hc2
  exact (g.block k hk (fun e => hne (by cases e; rfl))).trans h2
theorem grown_drew' (W : World) : W.grownBy W.drew none := ⟨rfl, rfl, rfl, Nat.le_refl _, fun _ _ _ => rfl⟩

set_option maxRecDepth 100000 in
set_option maxHeartbeats 2000000 in
/-- The closure that slices.Chunk answers, over R lanes of K cells each. -/
theorem chunk1_in (n l b Bs Bn bc cp R K : Nat) (hK : 0 < K) (hRK : R * K ≤ 4096) (hcp : R * K ≤ cp) (J Jx : List Nat → World → Prop) (hJ : AbidesFrom b J)
    (hY : ∀ m pre x W, x < R → J pre W → pre.length < R → YieldAt Fence.wide m Tryz.prog l #[.slice (some ⟨bc, x * K * 3, none⟩) K K] W fun e W' =>
      (e = .returned (.bool true) ∧ J (pre ++ [x]) W' ∧ KB (fun k => k = Bs ∨ k = Bn) W W') ∨ (e = .returned (.bool false) ∧ Jx (pre ++ [x]) W'))
    (W : World) (hb : b ≤ W.heap.size) (cs : W.cell? ⟨Bs, 0, none⟩ = some (.slice (some ⟨bc, 0, none⟩) (R * K : Nat) cp)) (cn : W.cell? ⟨Bn, 0, none⟩ = some (.int .i64 K)) (h0 : J [] W) :
    CallsIn Fence.wide n Tryz.prog 122 #[.func (.yield l) #[] #[], .pointer (some ⟨Bs, 0, none⟩), .pointer (some ⟨Bn, 0, none⟩)] W fun e W' => (∃ v, e = .returned v) ∧
      ((∃ ys, ys = List.range R ∧ J ys W') ∨ (∃ pre, pre <+: List.range R ∧ Jx pre W')) := by
  have hdd : ∀ k : Nat, (Fence.wide.depth.isSome = true → 1 ≤ k) := fun k h => by cases h
  have HY := hide hY
  clear hY
  obtain ⟨T, hT⟩ : ∃ T, T = R * K := ⟨_, rfl⟩
  have HTT := hide hT
  rw [← hT] at hRK hcp cs
  clear hT
  refine callsIn_of_wp Tryz.func122 rfl trivial ?_ rfl
  simp only [Tryz.ntmps122, List.size_toArray, List.length_cons, List.length_nil, Nat.reduceAdd, Nat.reduceSub, Array.replicate_succ, Array.replicate_zero, List.push_toArray, List.append_toArray, List.nil_append, List.cons_append]
  gi_wp2
  gi_loopw [4] (fun i wr => ∃ (k I : Nat), I = k * K ∧ i = .int .i64 I ∧ k ≤ R ∧ J (List.range k) wr ∧ KB (fun k => k = Bs ∨ k = Bn) W wr) (fun i _ => T - (intOf i).toNat)
  case atStart => exact ⟨0, 0, by omega, rfl, by omega, h0, KB.refl _ _⟩
  case round =>
    obtain ⟨k, I, hI, rfl, hk, hJk, hKk⟩ := hrel
    have cs := hKk.cell (Or.inl rfl) cs
    have cn := hKk.cell (Or.inr rfl) cn
    by_cases hlt : k < R
    · have hIK : I + K ≤ T := by
        have : (k + 1) * K ≤ R * K := Nat.mul_le_mul_right K hlt
        rw [Nat.add_mul, Nat.one_mul, ← hI, ← HTT.out] at this
        exact this
      have hd : decide ((I : Int) < (T : Int)) = true := decide_eq_true (by omega)
      have hmin : min (K : Int) ((T - I : Nat) : Int) = (K : Int) := by omega
      have i0 : (0 : Int) ≤ (I : Int) := Int.natCast_nonneg _
      have i1 : (I : Int) ≤ (T : Int) := by omega
      have HI := hide hI
      have hJd : J (List.range k) wr.drew := hJ (List.range k) wr wr.drew none hJk (grown_drew' wr) (fun r e => by cases e)
      have hYk := HY.out (n - 1) (List.range k) k wr.drew hlt hJd (by rw [List.length_range]; exact hlt)
      rw [← hI] at hYk
      clear hI
      obtain ⟨fn, tmps, assign, body, hy, hR⟩ := hYk
      gi_wp2
      gi_region
      gi_wp2
      refine ⟨hdd _, hR.mono ?_⟩
      have hr1 : List.range (k + 1) = List.range k ++ [k] := List.range_succ
      have Hr1 := hide hr1
      clear hr1
      rintro e W2 (⟨rfl, hJ2, hk2⟩ | ⟨rfl, hx2⟩)
      · have cn2 := hk2.cell (Or.inr rfl) (show wr.drew.cell? _ = _ from cn)
        have HK2 := hide (hKk.trans (KB.trans (B := wr.drew) ⟨Nat.le_refl _, fun _ _ _ h _ => h⟩ hk2))
        have HJ2 := hide hJ2
        clear hk2 hJ2 hR hy
        gi_wp2
        go_roundw
        · exact ⟨k + 1, I + K, by rw [HI.out, Nat.add_mul, Nat.one_mul], by go_num, by omega, by rw [Hr1.out]; exact HJ2.out, HK2.out⟩
        · simp [intOf]; omega
      · have HX2 := hide hx2
        clear hx2 hR hy
        gi_wp2
        refine bodyPost_ret (results_none rfl _ _ _) rfl ?_
        exact ⟨⟨_, rfl⟩, .inr ⟨_, by
          rw [← Hr1.out]
          rw [show List.range (k + 1) = (List.range R).take (k + 1) by rw [List.take_range]; congr 1; omega]
          exact List.take_prefix _ _, HX2.out⟩⟩
    · have hkk : k = R := by omega
      subst hkk
      have hIT : I = T := by rw [hI, HTT.out]
      subst hIT
      clear hI
      gi_wp2
      go_end0
      exact ⟨⟨_, rfl⟩, .inl ⟨_, rfl, hJk⟩⟩
/-- A lane's number. -/
abbrev Ln (R : Nat) := { x : Nat // x < R }
def lnv {R : Nat} (ps : List (Ln R)) : List Nat := ps.map (·.1)
theorem lnv_append {R : Nat} (p q : List (Ln R)) : lnv (p ++ q) = lnv p ++ lnv q := List.map_append ..
theorem lnv_len {R : Nat} (p : List (Ln R)) : (lnv p).length = p.length := List.length_map ..
theorem chunk_stops (n Bs Bn bc cp R K : Nat) (hK : 0 < K) (hRK : R * K ≤ 4096) (hcp : R * K ≤ cp) (w : World)
    (cs : w.cell? ⟨Bs, 0, none⟩ = some (.slice (some ⟨bc, 0, none⟩) (R * K : Nat) cp)) (cn : w.cell? ⟨Bn, 0, none⟩ = some (.int .i64 K)) :
    SeqStopsK Fence.wide n Tryz.prog 122 #[.pointer (some ⟨Bs, 0, none⟩), .pointer (some ⟨Bn, 0, none⟩)] (fun x : Ln R => #[Value.slice (some ⟨bc, x.1 * K * 3, none⟩) K K]) (KB (fun k => k = Bs ∨ k = Bn)) (fun ys => lnv ys = List.range R) (fun pre => lnv pre <+: List.range R) R w := fun l J Jx W hW hJ hJx hY h0 => by
  have key := chunk1_in n l W.heap.size Bs Bn bc cp R K hK hRK hcp (fun pre W => ∃ ps, lnv ps = pre ∧ J ps W) (fun pre W => ∃ ps, lnv ps = pre ∧ Jx ps W)
    (fun pre A B row ⟨ps, e, h⟩ hg hrow => ⟨ps, e, hJ ps A B row h hg hrow⟩)
    (fun m pre x A hx ⟨ps, e, h⟩ hlen => by
      subst e
      have hy := yield_any m (hY ps ⟨x, hx⟩ A h (by rw [← lnv_len]; exact hlen))
      refine hy.mono ?_
      rintro e W' (⟨rfl, h1, h2⟩ | ⟨rfl, h1⟩)
      · exact .inl ⟨rfl, ⟨_, lnv_append _ _, h1⟩, h2⟩
      · exact .inr ⟨rfl, ⟨_, lnv_append _ _, h1⟩⟩)
    W (Nat.le_refl _) ((hW.cell (p := ⟨Bs, 0, none⟩) (cell_lt cs)).trans cs) ((hW.cell (p := ⟨Bn, 0, none⟩) (cell_lt cn)).trans cn) ⟨[], rfl, h0⟩
  refine key.mono ?_
  rintro e W' ⟨hv, ⟨ys, rfl, ps, e1, h⟩ | ⟨pre, hpre, ps, e1, h⟩⟩
  · exact ⟨hv, .inl ⟨ps, e1, h⟩⟩
  · exact ⟨hv, .inr ⟨ps, by show lnv ps <+: _; rw [e1]; exact hpre, h⟩⟩

set_option maxRecDepth 100000 in
set_option maxHeartbeats 1000000 in
/-- slices.Chunk: both arguments are boxed; the function value captures the boxes. -/
theorem chunkF_in (n : Nat) (sa : Option Addr) (L cp K : Nat) (hK : 0 < K) (hK2 : K ≤ 4096) (w : World) :
    CallsIn Fence.wide n Tryz.prog 84 #[.slice sa L cp, .int .i64 K] w fun e w' => e = .returned (.func (.func 122) #[] #[.pointer (some ⟨w.heap.size, 0, none⟩), .pointer (some ⟨w.heap.size + 1, 0, none⟩)]) ∧ w' = (w.alloc (.cells #[.slice sa L cp] 61)).alloc (.cells #[.int .i64 K] 3) := by
  have hd : decide ((K : Int) < 1) = false := decide_eq_false (by omega)
  refine callsIn_of_wp Tryz.func84 rfl trivial ?_ rfl
  simp only [Tryz.ntmps84, List.size_toArray, List.length_cons, List.length_nil, Nat.reduceAdd, Nat.reduceSub, Array.replicate_succ, Array.replicate_zero, List.push_toArray, List.append_toArray, List.nil_append, List.cons_append]
  gi_wp2
  go_ret
  exact ⟨rfl, rfl⟩
end Go.Proofs.YtfhcpicddegblaaGreat
namespace Go.Proofs.YtfhcpicddegblaaGreat
open Go.RowKit FL Go.ChangeShapes
set_option linter.unusedSimpArgs false
set_option linter.unusedVariables false

theorem make_floats0 (W : World) (n : Nat) (hn : n ≤ 4096) : (Instr.makeSlice 67 (.int .i64 0) (.int .i64 n)).run Tryz.prog W = .ok (.slice (some ⟨W.heap.size, 0, none⟩) 0 n) (W.alloc (.cells (madeCells #[.float .f64 0] n) 64)) := by
  obtain ⟨i0, hi0, hz0, hz1, hz2⟩ := info_parts info64
  have h := run_make (P := Tryz.prog) W 67 64 i0 (.float .f64 0) Tryz.underlying67 hi0 hz0 .i64 .i64 0 n (by omega) (by omega) (by rw [hz2]; omega) (by omega)
  rw [hz1] at h
  simp only [Int.toNat_natCast, Nat.mul_one] at h
  exact h
/-- Floats as values. -/
def fvals (L : List Nat) : List Value := L.map (.float .f64 ·)
theorem frow_own {w : World} {base b n cap : Nat} {L : List Nat} (h : w.ownsRow base 64 1 (.slice (some ⟨b, 0, none⟩) n cap) n (fvals L)) (hb : ∀ j, B64 (L.getD j 0)) : FRow w b L := by
  have hl : n = L.length := by have := h.1; simp [fvals] at this; omega
  refine ⟨fun j hj => ?_, fun o => h.frozenAt o, hb⟩
  refine (h.cellAt j (by omega)).trans ?_
  simp [fvals, hj, List.getD_eq_getElem?_getD]

set_option maxHeartbeats 2000000 in
theorem floatsOf_any {w : World} {sa : Option Addr} {cap : Nat} {cs : List C3} (h : CV w (.slice sa cs.length cap) cs) (hg : ∀ j, B64 ((cs.map (·.2.1)).getD j 0)) (hl : cs.length ≤ 4096) :
    Calls Tryz.prog 39 #[.slice sa cs.length cap] w fun e w' => ∃ b, e = .returned (.slice (some ⟨b, 0, none⟩) cs.length cs.length) ∧ FRow w' b (cs.map (·.2.1)) ∧ w.heap.size ≤ b ∧ Below w.heap.size w w' := by
  obtain ⟨i0, hi0, hz0, hz1, hz2⟩ := info_parts info64
  have hmk := make_floats0 w cs.length hl
  have S0 := World.ownsRow_made (base := w.heap.size) (e := 64) (size := 1) w (madeCells #[.float .f64 0] cs.length) cs.length (Nat.le_refl _) (by unfold maxLen; omega) (by simp [madeCells])
  have B0 : Below w.heap.size w (w.alloc (.cells (madeCells #[.float .f64 0] cs.length) 64)) := (Below.refl _ _).alloc (Nat.le_refl _) _
  have HO := hide S0
  have HB := hide B0
  have n0 : (0 : Int) ≤ (cs.length : Int) := Int.natCast_nonneg _
  have HCV := hide h
  have HG := hide hg
  clear S0 B0 h hg
  go_enter Tryz.func39, Tryz.ntmps39
  go_wp2_with fail
  generalize hW0 : w.alloc (.cells (madeCells #[.float .f64 0] cs.length) 64) = W0 at HO HB ⊢
  clear hW0 hmk
  go_loopw [3, 5, 11] (fun o _ i wr => ∃ k : Nat, i = .int .i64 k ∧ k ≤ cs.length ∧ o = .slice (some ⟨w.heap.size, 0, none⟩) k cs.length ∧ wr.ownsRow w.heap.size 64 1 (.slice (some ⟨w.heap.size, 0, none⟩) k cs.length) k (fvals ((cs.map (·.2.1)).take k)) ∧ Below w.heap.size w wr) (fun o _ i _ => cs.length - (intOf i).toNat)
  case atStart => exact ⟨0, rfl, by omega, rfl, HO.out, HB.out⟩
  case round =>
    obtain ⟨k, rfl, hk, rfl, hO, hB⟩ := hrel
    by_cases hkn : k < cs.length
    · rcases HCV.out with ⟨sa2, cap2, e2, h0 | ⟨bc, oc, e3, hrow⟩⟩
      · rw [h0] at hkn; simp at hkn
      injection e2 with e4 _ _
      subst e4
      subst e3
      obtain ⟨q0, q1, q2⟩ := hrow k hkn
      have q0 := Bel.box hB q0
      have q1 := Bel.box hB q1
      have q2 := Bel.box hB q2
      have k0' : (0 : Int) ≤ (k : Int) := Int.natCast_nonneg _
      have k1 : (k : Int) < (cs.length : Int) := by omega
      have htk : Hid (fvals ((cs.map (·.2.1)).take (k + 1)) = fvals ((cs.map (·.2.1)).take k) ++ [.float .f64 (cs.getD k k0).2.1]) := by
        show fvals ((cs.map (·.2.1)).take (k + 1)) = _
        rw [List.take_add_one, fvals, fvals, List.map_append, List.getElem?_map, List.getElem?_eq_getElem hkn, List.getD_eq_getElem?_getD, List.getElem?_eq_getElem hkn]
        rfl
      generalize cs.getD k k0 = c at q0 q1 q2 htk
      obtain ⟨A, B, C⟩ := c
      simp only at q0 q1 q2
      have HO2 := hide hO
      have HB2 := hide hB
      clear hO hB hrow
      have hc1 := cell_one_new (wr.alloc (.cells #[.int .i64 A, .float .f64 B, .float .f64 C] 66)) (.float .f64 B) 64
      rw [World.size_alloc] at hc1
      have HB3 := hide ((HB2.out.alloc (HB2.out.size) (.cells #[.int .i64 A, .float .f64 B, .float .f64 C] 66)).alloc (Nat.le_trans HB2.out.size (by simp)) (.cells #[.float .f64 B] 64))
      have hsz := HB2.out.size
      go_wp2_with (at_builtin; (refine wpList_append_fits _ rfl _ _ 67 rfl w.heap.size 64 i0 1 Tryz.underlying67 hi0 hz1 w.heap.size k cs.length _ rfl ((HO2.out.alloc _).alloc _) ⟨wr.heap.size + 1, 0, none⟩ 1 1 [.float .f64 B] rfl rfl hc1 (by simp [Value.oneCell']) (by omega) ?_); intro w3 hown3 hgrow3; have HO3 := hide hown3; have HG3 := hide hgrow3; clear hown3 hgrow3)
      have HB4 := hide (Below.grown HB3.out HG3.out (by simp; omega) (fun j hj => by injection hj with hj; omega))
      go_roundw
      · exact ⟨_, _, _, ⟨k + 1, rfl, by omega, rfl, by rw [htk.out]; exact HO3.out, HB4.out⟩, rfl, rfl, by go_num⟩
      · simp [intOf]; omega
    · have hkk : k = cs.length := by omega
      subst hkk
      have ht : (cs.map (·.2.1)).take cs.length = cs.map (·.2.1) := by rw [List.take_of_length_le (by simp)]
      rw [ht] at hO
      go_wp2
      go_ret
      exact ⟨_, rfl, frow_own hO HG.out, Nat.le_refl _, hB⟩
end Go.Proofs.YtfhcpicddegblaaGreat
