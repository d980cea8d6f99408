import Derived.Test.YtiekkninnjffpaaM12
import Derived.Deep.DeepCutAuto
namespace Go.Proofs.Ytiekkninnjffpaa
open Go.ChangeShapes Go.RowKit
set_option linter.unusedSimpArgs false
set_option linter.unusedVariables false

theorem PX.tail {w W : World} {K b B g n c : Nat} {sa sb : Option Addr} {ca cb : Nat} {xs ss P : List Int} {off : Int} (h : PX w W K b B (.slice sa xs.length ca) (.slice sb ss.length cb) xs ss off (.slice (some ⟨g, 0, none⟩) n c) P) (hl : xs.length ≤ 5 ∧ ss.length ≤ 5) (hn : P.length = n) (h8 : n ≤ 8) {v0 v1 v2 : Value} :
    DrawPOk w (.returned (.tuple #[.agg #[.slice sa xs.length ca, .slice sb ss.length cb, .int .i64 off], .slice (some ⟨g, 1, none⟩) (n - 1) (c - 1)])) (((W.setCell ⟨w.heap.size, 0, none⟩ v0).setCell ⟨w.heap.size, 1, none⟩ v1).setCell ⟨w.heap.size, 2, none⟩ v2) := by
  obtain ⟨_, _, t3⟩ := h.dx.ints v0 v1 v2
  obtain ⟨t1, t2⟩ := h.dx.intsB v0 v1 v2
  obtain ⟨_, hg, hrow, _, _⟩ := h.row
  have hb := h.dx.hb
  have hk := h.dx.src.hb
  have m : Mut w.heap.size W (((W.setCell ⟨w.heap.size, 0, none⟩ v0).setCell ⟨w.heap.size, 1, none⟩ v1).setCell ⟨w.heap.size, 2, none⟩ v2) := (((Mut.refl _ _).setCell _ _).setCell _ _).setCell _ _
  have e : n - 1 = (P.drop 1).length := by simp; omega
  rw [e]
  refine ⟨sa, sb, _, ca, cb, c - 1, xs, ss, P.drop 1, off, rfl, t1, t2, ⟨_, _, rfl, Or.inr ⟨g, 1, rfl, by omega, ?_, fun j hj => ?_⟩⟩, ⟨hl.1, hl.2, by omega⟩, t3⟩
  · exact Nat.lt_of_lt_of_le (h.own.lt g rfl).2 m.size
  have := m.box (show g ≠ w.heap.size by omega) (hrow (1 + j) (by simp at hj; omega))
  rw [Nat.zero_add] at this
  rw [this, getD_drop]
theorem PX.zero {w W : World} {K b B g n c : Nat} {sa sb : Option Addr} {ca cb : Nat} {xs ss P : List Int} {off : Int} (h : PX w W K b B (.slice sa xs.length ca) (.slice sb ss.length cb) xs ss off (.slice (some ⟨g, 0, none⟩) n c) P) (hl : xs.length ≤ 5 ∧ ss.length ≤ 5) (hn : n ≤ 1) {v0 v1 v2 : Value} :
    DrawPOk w (.returned (.tuple #[.agg #[.slice sa xs.length ca, .slice sb ss.length cb, .int .i64 off], .slice (some ⟨g, 0, none⟩) (n - 1) 0])) (((W.setCell ⟨w.heap.size, 0, none⟩ v0).setCell ⟨w.heap.size, 1, none⟩ v1).setCell ⟨w.heap.size, 2, none⟩ v2) := by
  obtain ⟨_, _, t3⟩ := h.dx.ints v0 v1 v2
  obtain ⟨t1, t2⟩ := h.dx.intsB v0 v1 v2
  have e : n - 1 = ([] : List Int).length := by simp; omega
  rw [e]
  exact ⟨sa, sb, _, ca, cb, 0, xs, ss, [], off, rfl, t1, t2, ⟨_, _, rfl, Or.inl rfl⟩, ⟨hl.1, hl.2, by simp⟩, t3⟩
theorem px_cap {w W : World} {K b B g n c : Nat} {vA vB : Value} {xs ss P : List Int} {off : Int} (h : PX w W K b B vA vB xs ss off (.slice (some ⟨g, 0, none⟩) n c) P) : n ≤ c := by
  rcases h.own.2 with ⟨h1, _⟩ | ⟨g', cap', cur, h1, _, _, h4, _⟩
  · cases h1
  · injection h1 with e1 e2 e3
    omega
set_option maxRecDepth 100000 in
set_option maxHeartbeats 4000000 in
theorem drawBroadcast_any {w : World} {v : Value} {cs : List Int} (h : Code w v cs) : Calls Try.prog 48 #[v] w fun e w' => DrawPOk w e w' := by
  obtain ⟨i0, hi0, hz0, hz1, hz2⟩ := info_parts info2
  have y0 : Ext w (w.alloc (.cells #[.slice none 0 0, .slice none 0 0, .int .i64 0] 27)) := (Ext.refl _).alloc _ _
  have HC := hide (h.keep y0.bl)
  obtain ⟨sv, cv, rfl, _, _⟩ := h
  clear y0
  go_enter Try.func48, Try.ntmps48
  go_wp2_with fail
  generalize hV : w.alloc (.cells #[.slice none 0 0, .slice none 0 0, .int .i64 0] 27) = V0 at HC ⊢
  have HV : Hid (V0 = w.alloc (.cells #[.slice none 0 0, .slice none 0 0, .int .i64 0] 27)) := hV.symm
  clear hV
  refine (source_any HC.out).mono ?_
  rintro e W1 ⟨b, vs, rfl, hS, hb, hB⟩
  have HB : Hid (V0.heap.size ≤ b ∧ Below V0.heap.size V0 W1 ∧ b < W1.heap.size ∧ SX W1 W1.heap.size b) := ⟨hb, hB, cell_lt hS.c0, ⟨_, _, _, _, hS.h⟩⟩
  clear hS hb hB HC
  go_wp2_with fail
  refine (drawAny_any HB.out.2.2.2).mono ?_
  rintro e W2 ⟨sa, sb, ca, cb, xs, ss, off, rfl, ha, hc, ⟨hl1, hl2, hin⟩, hst⟩
  have D0 := hide (DX.make off HV.out HB.out.1 HB.out.2.1 HB.out.2.2.1 ha hc hst)
  have hlen : xs.length ≤ 5 ∧ ss.length ≤ 5 := ⟨hl1, hl2⟩
  have HIN := hide hin
  clear ha hc hst HB HV hin hl2
  have c0 := D0.out.c0
  go_wp2_with fail
  refine (copyList_some (own_ints D0.out.a) (by omega)).mono ?_
  rintro e W3 ⟨gs, cc, rfl, hO, x3⟩
  have P0 : Hid (PX w W3 (W2.heap.size + 1) b W2.heap.size (.slice sa xs.length ca) (.slice sb ss.length cb) xs ss off (.slice (some ⟨gs, 0, none⟩) xs.length cc) xs) := ⟨D0.out.bel x3, own_low hO D0.out.hK⟩
  clear hO x3 c0 D0
  go_upto_region 4 with fail
  generalize hG0 : W2.heap.size + 1 = K at P0
  generalize hBB : W2.heap.size = B at P0 ⊢
  clear hG0 hBB
  go_cut [23] (fun s23 wx => ∃ q : Bool, s23 = .bool q ∧ PX w wx K b B (.slice sa xs.length ca) (.slice sb ss.length cb) xs ss off (.slice (some ⟨gs, 0, none⟩) xs.length cc) xs)
  case first =>
    rcases (show xs.length < 4 ∨ ¬ xs.length < 4 by omega) with h4 | h4
    · have h4i : (xs.length : Int) < 4 := by omega
      have d4 : decide ((xs.length : Int) < 4) = true := decide_eq_true h4i
      go_wp2_with fail
      refine (P0.out.next 2).mono ?_
      rintro e U1 ⟨z1, rfl, hz1', p1⟩
      have P1 := hide p1
      clear p1 P0
      go_wp2
      go_meet
      case rel => exact ⟨_, rfl, P1.out⟩
    · have h4i : ¬ (xs.length : Int) < 4 := by omega
      have d4 : decide ((xs.length : Int) < 4) = false := decide_eq_false h4i
      go_wp2
      go_meet
      case rel => exact ⟨_, rfl, P0.out⟩
  case rest =>
  obtain ⟨q, rfl, hP⟩ := hcut
  have P1 := hide hP
  clear hP P0
  go_upto_if 23 with fail
  go_cut [6] (fun s6 wx => ∃ (g n c : Nat) (Q : List Int), s6 = .slice (some ⟨g, 0, none⟩) n c ∧ (n ≤ 6 ∧ Q.length = n) ∧ PX w wx K b B (.slice sa xs.length ca) (.slice sb ss.length cb) xs ss off (.slice (some ⟨g, 0, none⟩) n c) Q)
  case first =>
    cases q with
    | false =>
      go_wp2
      go_meet
      case rel => exact ⟨gs, xs.length, cc, xs, rfl, by omega, P1.out⟩
    | true =>
      go_wp2_with fail
      refine (P1.out.next 4).mono ?_
      rintro e U2 ⟨z2, rfl, hz2', p2⟩
      have P2 := hide p2
      clear p2 P1
      have hXL : Hid (xs.length = xs.length) := rfl
      have LX := hide (own_lit (W := U2) (base := K) (z2) P2.out.dx.hK)
      go_wp2_with (at_builtin; (refine wpList_append_own _ rfl _ _ 22 rfl K 2 i0 (.int .i64 0) 1 8 Try.underlying22 hi0 hz0 hz1 hz2 rfl (by decide) _ 1 [.int .i64 (z2)] rfl LX.out ⟨gs, 0, none⟩ xs.length cc (xs.map (Value.int .i64)) rfl (by simp) (P2.out.news _) map_one (by unfold maxLen; omega) (by omega) (P2.out.szP _) ?_); intro v3 w3 hown3 hgrow3 hnil3; have PJ := hide (P2.out.join rfl hown3 hgrow3); have hnn : ¬ v3 = .slice none 0 0 := (fun e => by have := (hnil3.1 e).1; cases this); obtain ⟨g3, c3, rfl⟩ := own_blk hown3 hnn; clear hown3 hgrow3 hnil3 hnn LX)
      go_meet
      case rel => exact ⟨g3, 1 + xs.length, c3, z2 :: xs, rfl, by simp; omega, PJ.out⟩
  case rest =>
  obtain ⟨g, n, c, Q0, rfl, ⟨hn6, hQ0⟩, hP⟩ := hcut
  have P3 := hide hP
  clear hP P1 hQ0
  go_wp2_with fail
  go_loopw [7] (fun i wr => ∃ (k : Nat) (Q : List Int), i = .int .i64 k ∧ k ≤ n ∧ PX w wr K b B (.slice sa xs.length ca) (.slice sb ss.length cb) xs ss off (.slice (some ⟨g, 0, none⟩) n c) Q) (fun i _ => n - (intOf i).toNat)
  case atStart => exact ⟨0, Q0, rfl, by omega, P3.out⟩
  case round =>
    obtain ⟨k, Q, rfl, hk, hPX⟩ := hrel
    have HP := hide hPX
    clear hPX P3
    obtain ⟨hQl, hg, hrow, hfz, hset⟩ := HP.out.row
    have HQl := hide hQl
    clear hQl
    by_cases hlt : k < n
    · have hk0 : (0 : Int) ≤ (k : Int) := Int.natCast_nonneg _
      have hk1 : (k : Int) < (n : Int) := by omega
      have q0 := hrow k (by rw [HQl.out]; exact hlt)
      rw [Nat.zero_add] at q0
      generalize Q.getD k 0 = x at q0
      clear hrow hset
      rcases Classical.em (x = 1) with hx | hx
      · subst hx
        go_wp2_with fail
        refine (HP.out.next 5).mono ?_
        rintro e W5 ⟨z, rfl, bz, p5⟩
        have HP5 := hide p5
        clear p5 q0 hfz HP
        obtain ⟨_, _, hrow5, hfz5, hset5⟩ := HP5.out.row
        have q5 := hrow5 k (by rw [HQl.out]; exact hlt)
        rw [Nat.zero_add] at q5
        have HS5 := hide (hset5 k z)
        generalize Q.getD k 0 = x5 at q5
        clear hrow5 hset5
        go_wp2
        go_roundw
        · exact ⟨k + 1, Q.set k z, by go_num, by omega, HS5.out⟩
        · simp [intOf]; omega
      · have dx : (x == 1) = false := by simp [hx]
        go_wp2
        go_roundw
        · exact ⟨k + 1, Q, by go_num, by omega, HP.out⟩
        · simp [intOf]; omega
    · have hk1 : ¬ (k : Int) < (n : Int) := by omega
      clear hrow hset hfz
      go_wp2_with fail
      refine (HP.out.next 16).mono ?_
      rintro e U6 ⟨z, rfl, hz, p6⟩
      have HR := hide p6
      clear p6 HP hk1 hlt hk
      rcases (show (z = 0 ∨ z = 1) ∧ n = 0 ∨ (z = 0 ∧ 0 < n) ∨ (z = 1 ∧ 0 < n) ∨ z = 2 ∨ 3 ≤ z by omega) with ⟨hzz, h0⟩ | ⟨rfl, h0⟩ | ⟨rfl, h0⟩ | rfl | h3
      · have hn0 : ¬ (0 : Int) < (n : Int) := by omega
        have dn : decide ((0 : Int) < (n : Int)) = false := decide_eq_false hn0
        clear h0
        rcases hzz with rfl | rfl
        · have c0 := HR.out.dx.c0
          have c1 := HR.out.dx.c1
          have c2 := HR.out.dx.c2
          have r0 := HR.out.dx.rb.r0
          have r1 := HR.out.dx.rb.r1
          have r2 := HR.out.dx.rb.r2
          have rf := HR.out.dx.rb.rf
          go_wp2
          exact bodyPost_ret (v := .tuple #[.agg #[.slice sa xs.length ca, .slice sb ss.length cb, .int .i64 off], .slice (some ⟨g, 0, none⟩) (n) c]) (by simp [results, Try.results48, go_sem, set3_0 r0, set3_1 r1, set3_2 r2]) rfl (PX.done HR.out hlen (HQl.out) (by omega))
        · have c0 := HR.out.dx.c0
          have c1 := HR.out.dx.c1
          have c2 := HR.out.dx.c2
          have r0 := HR.out.dx.rb.r0
          have r1 := HR.out.dx.rb.r1
          have r2 := HR.out.dx.rb.r2
          have rf := HR.out.dx.rb.rf
          go_wp2
          exact bodyPost_ret (v := .tuple #[.agg #[.slice sa xs.length ca, .slice sb ss.length cb, .int .i64 off], .slice (some ⟨g, 0, none⟩) (n) c]) (by simp [results, Try.results48, go_sem, set3_0 r0, set3_1 r1, set3_2 r2]) rfl (PX.done HR.out hlen (HQl.out) (by omega))
      · have hn0 : (0 : Int) < (n : Int) := by omega
        have dn : decide ((0 : Int) < (n : Int)) = true := decide_eq_true hn0
        have hn1 : (1 : Int) ≤ (n : Int) := by omega
        have hcap : n ≤ c := px_cap HR.out
        have hcap1 : (1 : Int) ≤ (c : Int) := by omega
        have hcap2 : (n : Int) ≤ (c : Int) := by omega
        rcases Classical.em (c = 1) with hc1 | hc1
        · subst hc1
          obtain rfl : n = 1 := by omega
          have c0 := HR.out.dx.c0
          have c1 := HR.out.dx.c1
          have c2 := HR.out.dx.c2
          have r0 := HR.out.dx.rb.r0
          have r1 := HR.out.dx.rb.r1
          have r2 := HR.out.dx.rb.r2
          have rf := HR.out.dx.rb.rf
          go_wp2
          exact bodyPost_ret (v := .tuple #[.agg #[.slice sa xs.length ca, .slice sb ss.length cb, .int .i64 off], .slice (some ⟨g, 0, none⟩) 0 0]) (by simp [results, Try.results48, go_sem, set3_0 r0, set3_1 r1, set3_2 r2]) rfl (PX.zero HR.out hlen (by omega))
        · 
          have c0 := HR.out.dx.c0
          have c1 := HR.out.dx.c1
          have c2 := HR.out.dx.c2
          have r0 := HR.out.dx.rb.r0
          have r1 := HR.out.dx.rb.r1
          have r2 := HR.out.dx.rb.r2
          have rf := HR.out.dx.rb.rf
          go_wp2
          exact bodyPost_ret (v := .tuple #[.agg #[.slice sa xs.length ca, .slice sb ss.length cb, .int .i64 off], .slice (some ⟨g, 1, none⟩) (n - 1) (c - 1)]) (by simp [results, Try.results48, go_sem, set3_0 r0, set3_1 r1, set3_2 r2]) rfl (PX.tail HR.out hlen HQl.out (by omega))
      · have hn0 : (0 : Int) < (n : Int) := by omega
        have dn : decide ((0 : Int) < (n : Int)) = true := decide_eq_true hn0
        go_wp2_with fail
        refine (HR.out.next (n : Int)).mono ?_
        rintro e U7 ⟨z7, rfl, hz7, p7⟩
        obtain ⟨jj, hjj⟩ : ∃ jj : Nat, z7 = (jj : Int) := ⟨z7.toNat, by omega⟩
        subst hjj
        have HR7 := hide p7
        clear p7 HR
        obtain ⟨_, _, hrow7, hfz7, hset7⟩ := HR7.out.row
        have q7 := hrow7 jj (by rw [HQl.out]; omega)
        rw [Nat.zero_add] at q7
        generalize Q.getD jj 0 = x7 at q7
        have HR8 := hide (hset7 jj 5)
        have j0 : (0 : Int) ≤ (jj : Int) := Int.natCast_nonneg _
        have j1 : (jj : Int) < (n : Int) := by omega
        clear hrow7 hset7 HR7
        have c0 := HR8.out.dx.c0
        have c1 := HR8.out.dx.c1
        have c2 := HR8.out.dx.c2
        have r0 := HR8.out.dx.rb.r0
        have r1 := HR8.out.dx.rb.r1
        have r2 := HR8.out.dx.rb.r2
        have rf := HR8.out.dx.rb.rf
        go_wp2
        exact bodyPost_ret (v := .tuple #[.agg #[.slice sa xs.length ca, .slice sb ss.length cb, .int .i64 off], .slice (some ⟨g, 0, none⟩) (n) c]) (by simp [results, Try.results48, go_sem, set3_0 r0, set3_1 r1, set3_2 r2]) rfl (PX.done HR8.out hlen (by rw [List.length_set]; exact HQl.out) (by omega))
      · go_wp2_with fail
        refine (HR.out.next 2).mono ?_
        rintro e U7 ⟨z7, rfl, hz7, p7⟩
        have HR7 := hide p7
        clear p7 HR
        have LX := hide (own_lit (W := U7) (base := K) (4096 + z7) HR7.out.dx.hK)
        go_wp2_with (at_builtin; (refine wpList_append_own _ rfl _ _ 22 rfl K 2 i0 (.int .i64 0) 1 8 Try.underlying22 hi0 hz0 hz1 hz2 rfl (by decide) _ 1 [.int .i64 (4096 + z7)] rfl LX.out ⟨g, 0, none⟩ n c (Q.map (Value.int .i64)) rfl (by simp [HQl.out]) (HR7.out.news _) map_one (by unfold maxLen; omega) (by omega) (HR7.out.szP _) ?_); intro v3 w3 hown3 hgrow3 hnil3; have PJ := hide (HR7.out.join HQl.out.symm hown3 hgrow3); have hnn : ¬ v3 = .slice none 0 0 := (fun e => by have := (hnil3.1 e).1; cases this); obtain ⟨g3, c3, rfl⟩ := own_blk hown3 hnn; clear hown3 hgrow3 hnil3 hnn LX; have c0 := PJ.out.dx.c0; have c1 := PJ.out.dx.c1; have c2 := PJ.out.dx.c2; have r0 := PJ.out.dx.rb.r0; have r1 := PJ.out.dx.rb.r1; have r2 := PJ.out.dx.rb.r2; have rf := PJ.out.dx.rb.rf)
        exact bodyPost_ret (v := .tuple #[.agg #[.slice sa xs.length ca, .slice sb ss.length cb, .int .i64 off], .slice (some ⟨g3, 0, none⟩) (1 + n) c3]) (by simp [results, Try.results48, go_sem, set3_0 r0, set3_1 r1, set3_2 r2]) rfl (PX.done PJ.out hlen (by simp [HQl.out]; omega) (by omega))
      · have d0 : (z == 0) = false := by simp; omega
        have d1 : (z == 1) = false := by simp; omega
        have d2 : (z == 2) = false := by simp; omega
        have c0 := HR.out.dx.c0
        have c1 := HR.out.dx.c1
        have c2 := HR.out.dx.c2
        have r0 := HR.out.dx.rb.r0
        have r1 := HR.out.dx.rb.r1
        have r2 := HR.out.dx.rb.r2
        have rf := HR.out.dx.rb.rf
        go_wp2
        exact bodyPost_ret (v := .tuple #[.agg #[.slice sa xs.length ca, .slice sb ss.length cb, .int .i64 off], .slice (some ⟨g, 0, none⟩) (n) c]) (by simp [results, Try.results48, go_sem, set3_0 r0, set3_1 r1, set3_2 r2]) rfl (PX.done HR.out hlen (HQl.out) (by omega))
end Go.Proofs.Ytiekkninnjffpaa
