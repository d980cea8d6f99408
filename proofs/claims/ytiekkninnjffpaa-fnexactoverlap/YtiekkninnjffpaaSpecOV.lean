import Derived.Test.YtiekkninnjffpaaImplOV
import Derived.Test.YtiekkninnjffpaaSpecWR
namespace Go.Proofs.Ytiekkninnjffpaa
open Go.ChangeShapes Go.RowKit
set_option linter.unusedSimpArgs false
set_option linter.unusedVariables false

theorem IntsB.mono {w : World} {lo hi lo2 hi2 : Nat} {v : Value} {L : List Int} (h : IntsB w lo hi v L) (h1 : lo2 ≤ lo) (h2 : hi ≤ hi2) : IntsB w lo2 hi2 v L := by
  obtain ⟨sa, cap, e, h⟩ := h
  exact ⟨sa, cap, e, h.imp id (fun ⟨b, o, q1, q2, q3, q4⟩ => ⟨b, o, q1, by omega, by omega, q4⟩)⟩
/-- The world of the first loop: the marks of what has come. -/
structure NR (w wr : World) (Bm : Nat) (sa : Option Addr) (L : List Int) (uS uT : Value) (ogg : Int) (ys ts : List Int) (k : Nat) : Prop where
  mrk : Mk wr Bm (L.take k)
  own : OwnI wr (Bm + 1) sa L
  bl : Below w.heap.size w wr
  c0 : wr.cell? ⟨w.heap.size + 1, 0, none⟩ = some uS
  c1 : wr.cell? ⟨w.heap.size + 1, 1, none⟩ = some uT
  c2 : wr.cell? ⟨w.heap.size + 1, 2, none⟩ = some (.int .i64 ogg)
  iS : IntsB wr 0 Bm uS ys
  iT : IntsB wr 0 Bm uT ts
theorem NR.step {w wr : World} {Bm : Nat} {sa : Option Addr} {L : List Int} {uS uT : Value} {ogg : Int} {ys ts : List Int} {k m : Nat} (h : NR w wr Bm sa L uS uT ogg ys ts k) (hk : k < L.length) (hm : L.getD k 0 = (m : Int)) (hm4 : m < 4096) (hw : w.heap.size + 1 < Bm) : NR w (wr.setCell ⟨Bm, m, none⟩ (.bool true)) Bm sa L uS uT ogg ys ts (k + 1) := by
  have e := take_snoc L k hk
  rw [hm] at e
  have keep : ∀ b o v, b ≠ Bm → wr.cell? ⟨b, o, none⟩ = some v → (wr.setCell ⟨Bm, m, none⟩ (.bool true)).cell? ⟨b, o, none⟩ = some v := fun b o v hb hc => (World.cell?_of_block (Below.heap_setCell _ _ _ b (by show b ≠ Bm; exact hb))).trans hc
  have hI : ∀ v zs, IntsB wr 0 Bm v zs → IntsB (wr.setCell ⟨Bm, m, none⟩ (.bool true)) 0 Bm v zs := fun v zs ⟨sa, cap, e, h⟩ => ⟨sa, cap, e, h.imp id (fun ⟨b, o, h1, h2, h3, h4⟩ => ⟨b, o, h1, h2, h3, fun j hj => keep _ _ _ (by omega) (h4 j hj)⟩)⟩
  refine ⟨?_, ?_, h.bl.setCell (p := ⟨Bm, m, none⟩) (by show _ ≤ Bm; omega) _, keep _ _ _ (by omega) h.c0, keep _ _ _ (by omega) h.c1, keep _ _ _ (by omega) h.c2, hI _ _ h.iS, hI _ _ h.iT⟩
  · rw [e]; exact h.mrk.mark m hm4
  · rcases h.own with h0 | ⟨g, h1, h2, h3, h4⟩
    · exact Or.inl h0
    · exact Or.inr ⟨g, h1, h2, fun j hj => keep _ _ _ (by omega) (h3 j hj), fun o => (World.frozen?_setCell _ _ _ _).trans (h4 o)⟩

set_option maxRecDepth 100000 in
set_option maxHeartbeats 4000000 in
theorem sOV_any {w : World} {vS vT uS uT : Value} {xs ss ys ts : List Int} (hS : Ints w vS xs) (hT : Ints w vT ss) (gS : Ints w uS ys) (gT : Ints w uT ts) (off ogg : Int) (lx : xs.length ≤ 1048576) (ls : ss.length ≤ 1048576) (ly : ys.length ≤ 1048576) (lt : ts.length ≤ 1048576) :
    Calls Try.prog 28 #[.agg #[vS, vT, .int .i64 off], .agg #[uS, uT, .int .i64 ogg]] w fun e w' => e = .returned (.bool (dcOvV xs ss off ys ts ogg)) ∧ Bel w w' := by
  have x0 : Ext w ((w.alloc (.cells #[vS, vT, .int .i64 off] 27)).alloc (.cells #[uS, uT, .int .i64 ogg] 27)) := ((Ext.refl w).alloc _ _).alloc _ _
  have y0 : Ext (w.alloc (.cells #[vS, vT, .int .i64 off] 27)) ((w.alloc (.cells #[vS, vT, .int .i64 off] 27)).alloc (.cells #[uS, uT, .int .i64 ogg] 27)) := (Ext.refl _).alloc _ _
  have X0 := hide x0.bl
  have HS := hide (hS.ext x0)
  have HT := hide (hT.ext x0)
  have GS := hide (gS.bound.keep x0.bl)
  have GT := hide (gT.bound.keep x0.bl)
  have n1 := fun j => new_cell w #[vS, vT, .int .i64 off] 27 w.heap.size rfl j
  have n2 := fun j => new_cell (w.alloc (.cells #[vS, vT, .int .i64 off] 27)) #[uS, uT, .int .i64 ogg] 27 (w.heap.size + 1) (by simp) j
  have j0 := y0.box (n1 0)
  have j1 := y0.box (n1 1)
  have j2 := y0.box (n1 2)
  have k0 := n2 0
  have k1 := n2 1
  have k2 := n2 2
  have hz0 : Hid (((w.alloc (.cells #[vS, vT, .int .i64 off] 27)).alloc (.cells #[uS, uT, .int .i64 ogg] 27)).heap.size = w.heap.size + 2) := by show _ = _; simp
  clear n1 n2 x0 y0
  obtain ⟨sa, cap, rfl, _⟩ := hS
  obtain ⟨ta, dap, rfl, _⟩ := hT
  obtain ⟨ua, uap, rfl, _⟩ := gS
  obtain ⟨va, vap, rfl, _⟩ := gT
  go_enter Try.func28, Try.ntmps28
  go_wp2_with fail
  generalize hW0 : World.alloc (w.alloc _) _ = W0 at X0 HS HT GS GT j0 j1 j2 k0 k1 k2 hz0 ⊢
  clear hW0
  refine (sVV_any HS.out HT.out off lx ls).mono ?_
  rintro e W1 ⟨rfl, B1⟩
  have X1 := hide (X0.out.trans (B1.mono X0.out.size))
  have HS1 := hide (HS.out.below B1)
  have HT1 := hide (HT.out.below B1)
  have GS1 := hide (GS.out.keep B1)
  have GT1 := hide (GT.out.keep B1)
  have d0 := Bel.box B1 j0
  have d1 := Bel.box B1 j1
  have d2 := Bel.box B1 j2
  have f0 := Bel.box B1 k0
  have f1 := Bel.box B1 k1
  have f2 := Bel.box B1 k2
  have hz1 : Hid (w.heap.size + 2 ≤ W1.heap.size) := by have := hz0.out; have := Below.size B1; show _ ≤ _; omega
  clear j0 j1 j2 k0 k1 k2 X0 B1 HS HT GS GT hz0
  by_cases hv : ValidV xs ss off
  · rw [dcValidV_t hv]
    go_wp2_with fail
    refine (sVV_any GS1.out.ints GT1.out.ints ogg ly lt).mono ?_
    rintro e W2 ⟨rfl, B2⟩
    have X2 := hide (X1.out.trans (B2.mono X1.out.size))
    have HS2 := hide (HS1.out.below B2)
    have HT2 := hide (HT1.out.below B2)
    have GS2 := hide (GS1.out.keep B2)
    have GT2 := hide (GT1.out.keep B2)
    have e0 := Bel.box B2 d0
    have e1 := Bel.box B2 d1
    have e2 := Bel.box B2 d2
    have g0 := Bel.box B2 f0
    have g1 := Bel.box B2 f1
    have g2 := Bel.box B2 f2
    have hz2 : Hid (w.heap.size + 2 ≤ W2.heap.size) := by have := hz1.out; have := Below.size B2; show _ ≤ _; omega
    clear d0 d1 d2 f0 f1 f2 X1 B2 HS1 HT1 GS1 GT1 hz1
    by_cases hu : ValidV ys ts ogg
    · rw [dcValidV_t hu]
      have hin := hide (offs_in hv)
      have hin' := hide (offs_in hu)
      have hlen := offs_len hv
      have hlen' := offs_len hu
      obtain ⟨MC, hMC, hmk⟩ := make_marks W2
      have M2 : Hid (Mk (W2.alloc (.cells MC 4)) W2.heap.size []) := ⟨fun j hj => (new_cell W2 MC 4 _ rfl j).trans ((hMC j hj).trans (by simp)), fun j _ => frozen_nw W2 MC 4 _ j rfl⟩
      have x3 : Ext W2 (W2.alloc (.cells MC 4)) := (Ext.refl W2).alloc _ _
      have HP := hide (l2Offsets_any (HS2.out.ext x3) (HT2.out.ext x3) off hv)
      have HQ := hide (fun (W : World) (vS vT : Value) (a : Ints W vS ys) (b : Ints W vT ts) => l2Offsets_any a b ogg hu)
      have X3 := hide (X2.out.trans (x3.bl.mono X2.out.size))
      have GS3 := hide (GS2.out.keep x3.bl)
      have GT3 := hide (GT2.out.keep x3.bl)
      have p0 := x3.box e0
      have p1 := x3.box e1
      have p2 := x3.box e2
      have q0 := x3.box g0
      have q1 := x3.box g1
      have q2 := x3.box g2
      have hs2 : Hid ((W2.alloc (.cells MC 4)).heap.size = W2.heap.size + 1) := by show _ = _; simp
      have hWr : Hid ((dcOvV xs ss off ys ts ogg) = decide (∃ p ∈ offsL ys ts ogg, p ∈ offsL xs ss off)) := by
        show _ = _
        by_cases h : ∃ p ∈ offsL ys ts ogg, p ∈ offsL xs ss off
        · rw [decide_eq_true h, dcOvV_t (show OvV xs ss off ys ts ogg from ⟨hv, hu, h⟩)]
        · rw [decide_eq_false h, dcOvV_f (fun q : OvV xs ss off ys ts ogg => h q.2.2)]
      clear hv hu hMC x3 HS2 HT2 GS2 GT2 X2 e0 e1 e2 g0 g1 g2
      generalize offsL xs ss off = L at *
      generalize offsL ys ts ogg = M at *
      go_wp2_with fail
      generalize hW3 : W2.alloc (.cells MC 4) = W3 at *
      clear hW3
      refine HP.out.mono ?_
      clear HP
      rintro e W4 ⟨s4, c4, rfl, own4, B4⟩
      have S0 : Hid (NR w W4 W2.heap.size s4 L (.slice ua ys.length uap) (.slice va ts.length vap) ogg ys ts 0) := ⟨⟨fun j hj => by rw [Bel.box B4 (M2.out.at_ j hj)]; simp, fun j hj => (Below.frozen B4 (cell_lt (M2.out.at_ j hj))).trans (M2.out.fz j hj)⟩, by rw [← hs2.out]; exact own4, X3.out.trans (B4.mono X3.out.size), Bel.box B4 q0, Bel.box B4 q1, Bel.box B4 q2, (GS3.out.keep B4).mono (Nat.le_refl _) (by have := hz2.out; omega), (GT3.out.keep B4).mono (Nat.le_refl _) (by have := hz2.out; omega)⟩
      clear hmk p0 p1 p2 q0 q1 q2 B4 own4 M2 X3 hs2 GS3 GT3
      generalize W2.heap.size = Bm at *
      have hz := hz2.out
      go_wp2
      go_loopw [7] (fun i wr => ∃ k : Nat, i = .int .i64 k ∧ k ≤ L.length ∧ NR w wr Bm s4 L (.slice ua ys.length uap) (.slice va ts.length vap) ogg ys ts k) (fun i _ => L.length - (intOf i).toNat)
      case atStart => exact ⟨0, rfl, by omega, S0.out⟩
      case round =>
        obtain ⟨k, rfl, hk, hM⟩ := hrel
        have HM := hide hM
        clear S0
        by_cases hlt : k < L.length
        · rcases hM.own with h0 | ⟨g, rfl, hg, hrow, _⟩
          · rw [h0] at hlt; simp at hlt
          have hmem : L.getD k 0 ∈ L := by
            rw [List.getD_eq_getElem?_getD, List.getElem?_eq_getElem hlt]; exact List.getElem_mem _
          have hr4 := hin.out _ hmem
          have r0 := hrow k hlt
          rw [Nat.zero_add] at r0
          obtain ⟨m, hm⟩ : ∃ m : Nat, L.getD k 0 = (m : Int) := ⟨(L.getD k 0).toNat, by omega⟩
          rw [hm] at r0 hr4
          have hm4 : m < 4096 := by omega
          have r1 := hM.mrk.at_ m hm4
          have r2 := hM.mrk.fz m hm4
          have hk0 : (0 : Int) ≤ (k : Int) := Int.natCast_nonneg _
          have hk1 : (k : Int) < (L.length : Int) := by omega
          have hst := hide (hM.step hlt hm hm4 (by omega))
          clear hrow hmem hM hm
          go_wp2
          go_roundw
          · exact ⟨k + 1, by go_num, by omega, hst.out⟩
          · simp [intOf]; omega
        · have hkk : k = L.length := by omega
          subst hkk
          have t0 := hM.c0
          have t1 := hM.c1
          have t2 := hM.c2
          have HQ2 := hide (HQ.out wr _ _ hM.iS.ints hM.iT.ints)
          have hmkL : Hid (Mk wr Bm L) := by have := hM.mrk; rw [List.take_length] at this; exact this
          clear hM
          go_wp2_with fail
          refine HQ2.out.mono ?_
          clear HQ2
          rintro e W5 ⟨s5, c5, rfl, own5, B5⟩
          have M5 : Hid (Mk W5 Bm L) := ⟨fun j hj => Bel.box B5 (hmkL.out.at_ j hj), fun j hj => (Below.frozen B5 (cell_lt (hmkL.out.at_ j hj))).trans (hmkL.out.fz j hj)⟩
          have X5 : Hid (Below w.heap.size w W5) := HM.out.bl.trans (B5.mono HM.out.bl.size)
          have O5 := hide own5
          clear t0 t1 t2 B5 own5 hmkL HM
          go_wp2
          go_loopw [9] (fun i wr => ∃ k : Nat, i = .int .i64 k ∧ k ≤ M.length ∧ (∀ p ∈ M.take k, p ∉ L) ∧ wr = W5) (fun i _ => M.length - (intOf i).toNat)
          case atStart => exact ⟨0, rfl, by omega, by simp, rfl⟩
          case round =>
            obtain ⟨k, rfl, hk, hno, rfl⟩ := hrel
            have Hno := hide hno
            clear hno
            by_cases hlt : k < M.length
            · rcases O5.out with h0 | ⟨g, rfl, hg, hrow, _⟩
              · rw [h0] at hlt; simp at hlt
              have hmem : M.getD k 0 ∈ M := by
                rw [List.getD_eq_getElem?_getD, List.getElem?_eq_getElem hlt]; exact List.getElem_mem _
              have hr4 := hin'.out _ hmem
              have r0 := hrow k hlt
              rw [Nat.zero_add] at r0
              obtain ⟨m, hm⟩ : ∃ m : Nat, M.getD k 0 = (m : Int) := ⟨(M.getD k 0).toNat, by omega⟩
              rw [hm] at r0 hr4 hmem
              have hm4 : m < 4096 := by omega
              have r1 := M5.out.at_ m hm4
              have r2 := M5.out.fz m hm4
              have hk0 : (0 : Int) ≤ (k : Int) := Int.natCast_nonneg _
              have hk1 : (k : Int) < (M.length : Int) := by omega
              have e := hide (take_snoc M k hlt)
              rw [hm] at e
              clear hrow hm
              by_cases hin2 : (m : Int) ∈ L
              · have hyes : Hid ((dcOvV xs ss off ys ts ogg) = true) := hWr.out.trans (decide_eq_true ⟨(m : Int), hmem, hin2⟩)
                rw [decide_eq_true hin2] at r1
                clear hin2 hmem
                go_wp2
                go_ret
                exact ⟨ret_bool hyes.out.symm, X5.out⟩
              · have hst : Hid (∀ p ∈ M.take (k + 1), p ∉ L) := fun p hp => by
                  rw [e.out] at hp
                  rcases List.mem_append.1 hp with hp | hp
                  · exact Hno.out p hp
                  · have : p = (m : Int) := by simpa using hp
                    rw [this]; exact hin2
                rw [decide_eq_false hin2] at r1
                clear hin2 hmem
                go_wp2
                go_roundw
                · exact ⟨k + 1, by go_num, by omega, hst.out, by trivial⟩
                · simp [intOf]; omega
            · have hkk : k = M.length := by omega
              have hnn : Hid ((dcOvV xs ss off ys ts ogg) = false) := hWr.out.trans (decide_eq_false (fun ⟨p, h1, h2⟩ => Hno.out p (by rw [hkk, List.take_length]; exact h1) h2))
              subst hkk
              go_wp2
              go_ret
              exact ⟨ret_bool hnn.out.symm, X5.out⟩
    · have hno : Hid ((dcOvV xs ss off ys ts ogg) = false) := decide_eq_false (fun q => hu q.2.1)
      rw [dcValidV_f hu]
      clear hv hu
      go_wp2
      go_ret
      exact ⟨ret_bool hno.out.symm, X2.out⟩
  · have hno : Hid ((dcOvV xs ss off ys ts ogg) = false) := decide_eq_false (fun q => hv q.1)
    rw [dcValidV_f hv]
    clear hv
    go_wp2
    go_ret
    exact ⟨ret_bool hno.out.symm, X1.out⟩
end Go.Proofs.Ytiekkninnjffpaa
