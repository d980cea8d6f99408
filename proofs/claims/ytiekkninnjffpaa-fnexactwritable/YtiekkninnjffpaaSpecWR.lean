import Derived.Test.YtiekkninnjffpaaImplWR
import Derived.Test.YtiekkninnjffpaaSpecOF
import Derived.Deep.OwnRows
namespace Go.Proofs.Ytiekkninnjffpaa
open Go.ChangeShapes Go.RowKit
set_option linter.unusedSimpArgs false
set_option linter.unusedVariables false

theorem info4 : (Try.prog.info? 4).map (fun i => (i.zero, i.size, i.bytes)) = some (some (.bool false), 1, 1) := by kernel_rfl
theorem make_marks (W : World) : ∃ MC : Array Value, (∀ j, j < 4096 → MC[j]? = some (.bool false)) ∧ (Instr.makeSlice 72 (.int .i64 4096) (.int .i64 4096)).run Try.prog W = .ok (.slice (some ⟨W.heap.size, 0, none⟩) 4096 4096) (W.alloc (.cells MC 4)) := by
  refine ⟨madeCells #[.bool false] 4096, fun j hj => ?_, run_make_row' (P := Try.prog) 72 4 (.bool false) 1 Try.underlying72 info4 rfl .i64 .i64 4096 (by omega) (by omega) W⟩
  simp [madeCells, hj, Nat.mod_one]

theorem offs_len {xs ss : List Int} {off : Int} (hv : ValidV xs ss off) : (offsL xs ss off).length ≤ 4096 := by
  unfold offsL
  split
  · simp
  · rw [places_len xs ss off hv.2.1.symm]
    have h1 := prod_plen (fun m hm => (good_nonneg hv.1 m hm).1)
    have h2 := hv.1.2.2
    omega

/-- The world of the loop. -/
structure MR (w wr : World) (Bm : Nat) (sa : Option Addr) (L : List Int) (k : Nat) : Prop where
  nd : (L.take k).Nodup
  mrk : Mk wr Bm (L.take k)
  own : OwnI wr (Bm + 1) sa L
  bl : Below w.heap.size w wr
theorem MR.step {w wr : World} {Bm : Nat} {sa : Option Addr} {L : List Int} {k m : Nat} (h : MR w wr Bm sa L k) (hk : k < L.length) (hm : L.getD k 0 = (m : Int)) (hm4 : m < 4096) (hn : ¬ ((m : Int) ∈ L.take k)) (hw : w.heap.size ≤ Bm) : MR w (wr.setCell ⟨Bm, m, none⟩ (.bool true)) Bm sa L (k + 1) := by
  have e := take_snoc L k hk
  rw [hm] at e
  refine ⟨?_, ?_, ?_, h.bl.setCell (p := ⟨Bm, m, none⟩) hw _⟩
  · rw [e]
    refine List.nodup_append.2 ⟨h.nd, by simp, fun a ha b hb q => ?_⟩
    have : b = (m : Int) := by simpa using hb
    subst this
    subst q
    exact hn ha
  · rw [e]; exact h.mrk.mark m hm4
  · rcases h.own with h0 | ⟨g, h1, h2, h3, h4⟩
    · exact Or.inl h0
    · refine Or.inr ⟨g, h1, h2, fun j hj => ?_, fun o => (World.frozen?_setCell _ _ _ _).trans (h4 o)⟩
      exact (World.cell?_of_block (Below.heap_setCell _ _ _ g (by show g ≠ Bm; omega))).trans (h3 j hj)

set_option maxRecDepth 100000 in
set_option maxHeartbeats 2000000 in
theorem sWR_any {w : World} {vS vT : Value} {xs ss : List Int} (hS : Ints w vS xs) (hT : Ints w vT ss) (off : Int) (lx : xs.length ≤ 1048576) (ls : ss.length ≤ 1048576) :
    Calls Try.prog 26 #[.agg #[vS, vT, .int .i64 off]] w fun e w' => e = .returned (.bool (dcWrV xs ss off)) ∧ Bel w w' := by
  have x0 : Ext w (w.alloc (.cells #[vS, vT, .int .i64 off] 27)) := (Ext.refl w).alloc _ _
  have X0 := hide x0.bl
  have HS := hide (hS.ext x0)
  have HT := hide (hT.ext x0)
  have n1 := fun j => new_cell w #[vS, vT, .int .i64 off] 27 w.heap.size rfl j
  have k0 := n1 0
  have k1 := n1 1
  have k2 := n1 2
  clear n1 x0
  obtain ⟨sa, cap, rfl, _⟩ := hS
  obtain ⟨ta, dap, rfl, _⟩ := hT
  go_enter Try.func26, Try.ntmps26
  go_wp2_with fail
  generalize hW0 : w.alloc (.cells #[.slice sa xs.length cap, .slice ta ss.length dap, .int .i64 off] 27) = W0 at X0 HS HT k0 k1 k2 ⊢
  clear hW0
  refine (sVV_any HS.out HT.out off lx ls).mono ?_
  rintro e W1 ⟨rfl, B1⟩
  have X1 := hide (X0.out.trans (B1.mono X0.out.size))
  have HS1 := hide (HS.out.below B1)
  have HT1 := hide (HT.out.below B1)
  have d0 := Bel.box B1 k0
  have d1 := Bel.box B1 k1
  have d2 := Bel.box B1 k2
  clear k0 k1 k2 X0 B1 HS HT
  by_cases hv : ValidV xs ss off
  · rw [dcValidV_t hv]
    have hin := hide (offs_in hv)
    have Hv := hide hv
    obtain ⟨MC, hMC, hmk⟩ := make_marks W1
    have M2 : Hid (Mk (W1.alloc (.cells MC 4)) W1.heap.size []) := ⟨fun j hj => (new_cell W1 MC 4 _ rfl j).trans ((hMC j hj).trans (by simp)), fun j _ => frozen_nw W1 MC 4 _ j rfl⟩
    have x2 : Ext W1 (W1.alloc (.cells MC 4)) := (Ext.refl W1).alloc _ _
    have hlen := offs_len hv
    have HP := hide (l2Offsets_any (HS1.out.ext x2) (HT1.out.ext x2) off hv)
    have X2 := hide (X1.out.trans (x2.bl.mono X1.out.size))
    have q0 := x2.box d0
    have q1 := x2.box d1
    have q2 := x2.box d2
    have hs2 : Hid ((W1.alloc (.cells MC 4)).heap.size = W1.heap.size + 1) := by show _ = _; simp
    have hw1 := hide (X1.out.size)
    have hWr : Hid ((dcWrV xs ss off) = decide (offsL xs ss off).Nodup) := by
      show _ = _
      by_cases h : (offsL xs ss off).Nodup
      · rw [decide_eq_true h, dcWrV_t (show WrV xs ss off from ⟨hv, h⟩)]
      · rw [decide_eq_false h, dcWrV_f (fun q : WrV xs ss off => h q.2)]
    clear hv hMC x2 HS1 HT1 X1 Hv
    generalize offsL xs ss off = L at *
    go_wp2_with fail
    generalize hW2 : W1.alloc (.cells MC 4) = W2 at *
    clear hW2
    refine HP.out.mono ?_
    clear HP
    rintro e W3 ⟨s3, c3, rfl, own3, B3⟩
    have S0 : Hid (MR w W3 W1.heap.size s3 L 0) := ⟨by simp, ⟨fun j hj => by rw [Bel.box B3 (M2.out.at_ j hj)]; simp, fun j hj => (Below.frozen B3 (cell_lt (M2.out.at_ j hj))).trans (M2.out.fz j hj)⟩, by rw [← hs2.out]; exact own3, X2.out.trans (B3.mono X2.out.size)⟩
    clear hmk q0 q1 q2 d0 d1 d2 B3 own3 M2 X2 hs2
    generalize W1.heap.size = Bm at *
    go_wp2
    go_loopw [5] (fun i wr => ∃ k : Nat, i = .int .i64 k ∧ k ≤ L.length ∧ MR w wr Bm s3 L k) (fun i _ => L.length - (intOf i).toNat)
    case atStart => exact ⟨0, rfl, by omega, S0.out⟩
    case round =>
      obtain ⟨k, rfl, hk, hM⟩ := hrel
      have HM := hide hM
      clear S0
      by_cases hlt : k < L.length
      · rcases hM.own with h0 | ⟨g, rfl, hg, hrow, _⟩
        · rw [h0] at hlt; simp at hlt
        have hmem : L.getD k 0 ∈ L := by
          rw [List.getD_eq_getElem?_getD, List.getElem?_eq_getElem hlt]; exact List.getElem_mem _
        have hr4 := hin.out _ hmem
        have r0 := hrow k hlt
        rw [Nat.zero_add] at r0
        obtain ⟨m, hm⟩ : ∃ m : Nat, L.getD k 0 = (m : Int) := ⟨(L.getD k 0).toNat, by omega⟩
        rw [hm] at r0 hr4
        have hm4 : m < 4096 := by omega
        have r1 := hM.mrk.at_ m hm4
        have r2 := hM.mrk.fz m hm4
        have hk0 : (0 : Int) ≤ (k : Int) := Int.natCast_nonneg _
        have hk1 : (k : Int) < (L.length : Int) := by omega
        have Hm := hide hm
        clear hrow hmem hM hm
        by_cases hin2 : (m : Int) ∈ L.take k
        · have hno : Hid ((dcWrV xs ss off) = false) := hWr.out.trans (decide_eq_false (fun q => by
            have e := take_snoc L k hlt
            rw [Hm.out] at e
            have q2 := List.Sublist.nodup (List.take_sublist (k + 1) L) q
            rw [e] at q2
            exact (List.nodup_append.1 q2).2.2 _ hin2 _ (List.mem_singleton.2 rfl) rfl))
          rw [decide_eq_true hin2] at r1
          clear hin2
          go_wp2
          go_ret
          exact ⟨ret_bool hno.out.symm, HM.out.bl⟩
        · have hst := hide (HM.out.step hlt Hm.out hm4 hin2 hw1.out)
          rw [decide_eq_false hin2] at r1
          clear hin2
          go_wp2
          go_roundw
          · exact ⟨k + 1, by go_num, by omega, hst.out⟩
          · simp [intOf]; omega
      · have hkk : k = L.length := by omega
        have hyes : Hid ((dcWrV xs ss off) = true) := hWr.out.trans (decide_eq_true (by have := hM.nd; rw [hkk, List.take_length] at this; exact this))
        subst hkk
        clear hM
        go_wp2
        go_ret
        exact ⟨ret_bool hyes.out.symm, HM.out.bl⟩
  · have hno : Hid ((dcWrV xs ss off) = false) := decide_eq_false (fun q => hv q.1)
    rw [dcValidV_f hv]
    clear hv
    go_wp2
    go_ret
    exact ⟨ret_bool hno.out.symm, X1.out⟩
end Go.Proofs.Ytiekkninnjffpaa
