import Derived.Test.YtiekkninnjffpaaDDs
import Derived.Deep.DeepCutAuto
namespace Go.Proofs.Ytiekkninnjffpaa
open Go.ChangeShapes Go.RowKit
set_option linter.unusedSimpArgs false
set_option linter.unusedVariables false

/-- Inside an outer draw, with a list of its own that is younger than K. -/
structure PX (w W : World) (K b B : Nat) (vA vB : Value) (xs ss : List Int) (off : Int) (vP : Value) (P : List Int) : Prop where
  dx : DX w W K b B vA vB xs ss off
  own : W.ownsRow K 2 1 vP P.length (P.map (Value.int .i64))
theorem PX.bel {w W W' : World} {K b B : Nat} {vA vB vP : Value} {xs ss P : List Int} {off : Int} (h : PX w W K b B vA vB xs ss off vP P) (x : Bel W W') : PX w W' K b B vA vB xs ss off vP P := ⟨h.dx.bel x, own_keep h.own x⟩
theorem PX.next {w W : World} {K b B : Nat} {vA vB vP : Value} {xs ss P : List Int} {off : Int} (h : PX w W K b B vA vB xs ss off vP P) (m : Int) :
    Calls Try.prog 76 #[.pointer (some ⟨b, 0, none⟩), .int .i64 m] W fun e W' => ∃ v : Int, e = .returned (.int .i64 v) ∧ (0 ≤ v ∧ (v < m ∨ v = 0)) ∧ PX w W' K b B vA vB xs ss off vP P :=
  (next_x h.dx.src m).mono fun e W' hh => by
    obtain ⟨v, h1, h2, h3, h4, h5⟩ := hh
    exact ⟨v, h1, ⟨h2, h3⟩, h.dx.gb h4 (gb_mut h5), own_mut h.own h5 (fun e => by have := (h.own.lt b e).1; have := h.dx.src.hb; omega)⟩
theorem PX.step {w wr w3 : World} {K b B : Nat} {vA vB vP v3 : Value} {xs ss P : List Int} {off : Int} (h : PX w wr K b B vA vB xs ss off vP P) (x : Int)
    (hown : w3.ownsRow K 2 1 v3 (P.length + 1) (P.map (Value.int .i64) ++ [.int .i64 x])) (hgrow : (wr.alloc (.cells #[.int .i64 x] 2)).grownBy w3 vP.ownBlock) : PX w w3 K b B vA vB xs ss off v3 (P ++ [x]) := by
  refine ⟨(h.dx.bel ((Ext.refl wr).alloc #[.int .i64 x] 2).bl).grow hgrow (fun j hj => (h.own.lt j hj).1), ?_⟩
  rw [List.length_append, List.map_append]
  exact hown
theorem PX.szP {w wr : World} {K b B : Nat} {vA vB vP : Value} {xs ss P : List Int} {off : Int} (h : PX w wr K b B vA vB xs ss off vP P) (x : Int) : K ≤ (wr.alloc (.cells #[.int .i64 x] 2)).heap.size := by
  have h1 : wr.heap.size ≤ (wr.alloc (.cells #[.int .i64 x] 2)).heap.size := Below.size ((Ext.refl wr).alloc #[.int .i64 x] 2).bl
  exact Nat.le_trans h.dx.hK h1
theorem PX.start {w W : World} {K b B : Nat} {vA vB : Value} {xs ss : List Int} {off : Int} (h : DX w W K b B vA vB xs ss off) : PX w (W.alloc (.cells #[] 2)) K b B vA vB xs ss off (.slice (some ⟨W.heap.size, 0, none⟩) 0 0) [] :=
  ⟨h.bel ((Ext.refl W).alloc #[] 2).bl, World.ownsRow_made (base := K) (e := 2) (size := 1) W #[] 0 h.hK (by unfold maxLen; omega) rfl⟩
theorem PX.row {w W : World} {K b B g n cap : Nat} {vA vB : Value} {xs ss P : List Int} {off : Int} (h : PX w W K b B vA vB xs ss off (.slice (some ⟨g, 0, none⟩) n cap) P) : P.length = n ∧ K ≤ g ∧ Row W g 0 P ∧ (∀ o, W.frozen? ⟨g, o, none⟩ = false) ∧
    ∀ (j : Nat) (x : Int), PX w (W.setCell ⟨g, j, none⟩ (.int .i64 x)) K b B vA vB xs ss off (.slice (some ⟨g, 0, none⟩) n cap) (P.set j x) := by
  have ho := h.own
  obtain ⟨s', c', e⟩ := own_form2 ho
  injection e with e1 e2 e3
  subst e2
  have hg := (ho.lt g rfl).1
  refine ⟨rfl, hg, (row_of_own ho).1, fun o => ho.frozenAt o, fun j x => ?_⟩
  obtain ⟨s1, s2⟩ := ho.stored j (.int .i64 x)
  refine ⟨h.dx.grow s2 (fun k hk => by injection hk with hk; omega), ?_⟩
  rw [List.length_set, List.map_set]
  exact s1
theorem PX.join {w W w3 : World} {K b B gs cs : Nat} {vA vB v3 : Value} {xs ss P : List Int} {off x : Int} {n : Nat} (h : PX w W K b B vA vB xs ss off (.slice (some ⟨gs, 0, none⟩) n cs) P) (hn : n = P.length)
    (hown : w3.ownsRow K 2 1 v3 (1 + n) ([.int .i64 x] ++ P.map (Value.int .i64))) (hgrow : (W.alloc (.cells #[.int .i64 x] 2)).grownBy w3 (some W.heap.size)) : PX w w3 K b B vA vB xs ss off v3 (x :: P) := by
  subst hn
  refine ⟨(h.dx.bel ((Ext.refl W).alloc #[.int .i64 x] 2).bl).grow hgrow (fun j hj => by injection hj with hj; have := h.dx.hK; omega), ?_⟩
  have e : 1 + P.length = (x :: P).length := by simp; omega
  rw [← e]
  exact hown
theorem PX.news {w W : World} {K b B gs cs n : Nat} {vA vB : Value} {xs ss P : List Int} {off : Int} (h : PX w W K b B vA vB xs ss off (.slice (some ⟨gs, 0, none⟩) n cs) P) (x : Int) : ∀ j u, (P.map (Value.int .i64))[j]? = some u → (W.alloc (.cells #[.int .i64 x] 2)).cell? ((⟨gs, 0, none⟩ : Addr).add j) = some u :=
  fun j u hu => (h.own.alloc _).cells (g := gs) rfl j u hu
theorem own_ib {W : World} {base lo : Nat} {v : Value} {L : List Int} (h : W.ownsRow base 2 1 v L.length (L.map (Value.int .i64))) (hb : lo ≤ base) : IntsB W lo W.heap.size v L := by
  obtain ⟨sa, cap, rfl⟩ := own_form2 h
  exact own_intsB h hb
theorem own_chain3 {W : World} {base n R : Nat} {v : Value} {L : List Value} (h : W.ownsRow base 2 1 v n L) (hb : R < base) (v0 v1 v2 : Value) : (((W.setCell ⟨R, 0, none⟩ v0).setCell ⟨R, 1, none⟩ v1).setCell ⟨R, 2, none⟩ v2).ownsRow base 2 1 v n L :=
  ownsRow_setCell_below (ownsRow_setCell_below (ownsRow_setCell_below h (a := ⟨R, 0, none⟩) hb _) (a := ⟨R, 1, none⟩) hb _) (a := ⟨R, 2, none⟩) hb _
theorem DX.intsB {w W : World} {K b B : Nat} {vA vB : Value} {xs ss : List Int} {off : Int} (h : DX w W K b B vA vB xs ss off) (v0 v1 v2 : Value) : IntsB (((W.setCell ⟨w.heap.size, 0, none⟩ v0).setCell ⟨w.heap.size, 1, none⟩ v1).setCell ⟨w.heap.size, 2, none⟩ v2) w.heap.size (((W.setCell ⟨w.heap.size, 0, none⟩ v0).setCell ⟨w.heap.size, 1, none⟩ v1).setCell ⟨w.heap.size, 2, none⟩ v2).heap.size vA xs ∧ IntsB (((W.setCell ⟨w.heap.size, 0, none⟩ v0).setCell ⟨w.heap.size, 1, none⟩ v1).setCell ⟨w.heap.size, 2, none⟩ v2) w.heap.size (((W.setCell ⟨w.heap.size, 0, none⟩ v0).setCell ⟨w.heap.size, 1, none⟩ v1).setCell ⟨w.heap.size, 2, none⟩ v2).heap.size vB ss :=
  have hl := Nat.lt_succ_self w.heap.size
  ⟨own_ib (own_chain3 h.a hl v0 v1 v2) (Nat.le_succ _), own_ib (own_chain3 h.c hl v0 v1 v2) (Nat.le_succ _)⟩
theorem PX.ints {w W : World} {K b B : Nat} {vA vB vP : Value} {xs ss P : List Int} {off : Int} (h : PX w W K b B vA vB xs ss off vP P) (v0 v1 v2 : Value) : IntsB (((W.setCell ⟨w.heap.size, 0, none⟩ v0).setCell ⟨w.heap.size, 1, none⟩ v1).setCell ⟨w.heap.size, 2, none⟩ v2) w.heap.size (((W.setCell ⟨w.heap.size, 0, none⟩ v0).setCell ⟨w.heap.size, 1, none⟩ v1).setCell ⟨w.heap.size, 2, none⟩ v2).heap.size vP P := by
  have hl : w.heap.size < K := by have := h.dx.hb; have := h.dx.src.hb; omega
  exact own_ib (own_chain3 h.own hl v0 v1 v2) (by omega)
/-- A view and a list are drawn. -/
def DrawPOk (w : World) (e : Ending) (w' : World) : Prop := ∃ (sa sb sp : Option Addr) (ca cb cp : Nat) (xs ss ps : List Int) (off : Int), e = .returned (.tuple #[.agg #[.slice sa xs.length ca, .slice sb ss.length cb, .int .i64 off], .slice sp ps.length cp]) ∧ IntsB w' w.heap.size w'.heap.size (.slice sa xs.length ca) xs ∧ IntsB w' w.heap.size w'.heap.size (.slice sb ss.length cb) ss ∧ IntsB w' w.heap.size w'.heap.size (.slice sp ps.length cp) ps ∧ (xs.length ≤ 5 ∧ ss.length ≤ 5 ∧ ps.length ≤ 8) ∧ Bel w w'
theorem PX.done {w W : World} {K b B : Nat} {sa sb sp : Option Addr} {ca cb cp n : Nat} {xs ss P : List Int} {off : Int} (h : PX w W K b B (.slice sa xs.length ca) (.slice sb ss.length cb) xs ss off (.slice sp n cp) P) (hl : xs.length ≤ 5 ∧ ss.length ≤ 5) (hn : P.length = n) (h8 : n ≤ 8) {v0 v1 v2 : Value} :
    DrawPOk w (.returned (.tuple #[.agg #[.slice sa xs.length ca, .slice sb ss.length cb, .int .i64 off], .slice sp n cp])) (((W.setCell ⟨w.heap.size, 0, none⟩ v0).setCell ⟨w.heap.size, 1, none⟩ v1).setCell ⟨w.heap.size, 2, none⟩ v2) := by
  subst hn
  obtain ⟨_, _, t3⟩ := h.dx.ints v0 v1 v2
  obtain ⟨t1, t2⟩ := h.dx.intsB v0 v1 v2
  exact ⟨sa, sb, sp, ca, cb, cp, xs, ss, P, off, rfl, t1, t2, h.ints v0 v1 v2, ⟨hl.1, hl.2, h8⟩, t3⟩
end Go.Proofs.Ytiekkninnjffpaa
namespace Go.Proofs.Ytiekkninnjffpaa
open Go.ChangeShapes Go.RowKit
set_option linter.unusedSimpArgs false
set_option linter.unusedVariables false

set_option maxRecDepth 100000 in
set_option maxHeartbeats 4000000 in
theorem drawTranspose_any {w : World} {v : Value} {cs : List Int} (h : Code w v cs) : Calls Try.prog 47 #[v] w fun e w' => DrawPOk w e w' := by
  obtain ⟨i0, hi0, hz0, hz1, hz2⟩ := info_parts info2
  have y0 : Ext w (w.alloc (.cells #[.slice none 0 0, .slice none 0 0, .int .i64 0] 27)) := (Ext.refl _).alloc _ _
  have HC := hide (h.keep y0.bl)
  obtain ⟨sv, cv, rfl, _, _⟩ := h
  clear y0
  go_enter Try.func47, Try.ntmps47
  go_wp2_with fail
  generalize hV : w.alloc (.cells #[.slice none 0 0, .slice none 0 0, .int .i64 0] 27) = V0 at HC ⊢
  have HV : Hid (V0 = w.alloc (.cells #[.slice none 0 0, .slice none 0 0, .int .i64 0] 27)) := hV.symm
  clear hV
  refine (source_any HC.out).mono ?_
  rintro e W1 ⟨b, vs, rfl, hS, hb, hB⟩
  have HB : Hid (V0.heap.size ≤ b ∧ Below V0.heap.size V0 W1 ∧ b < W1.heap.size ∧ SX W1 W1.heap.size b) := ⟨hb, hB, cell_lt hS.c0, ⟨_, _, _, _, hS.h⟩⟩
  clear hS hb hB HC
  go_wp2_with fail
  refine (drawAny_any HB.out.2.2.2).mono ?_
  rintro e W2 ⟨sa, sb, ca, cb, xs, ss, off, rfl, ha, hc, ⟨hl1, hl2, hin⟩, hst⟩
  have D0 := hide (DX.make off HV.out HB.out.1 HB.out.2.1 HB.out.2.2.1 ha hc hst)
  have hlen : xs.length ≤ 5 ∧ ss.length ≤ 5 := ⟨hl1, hl2⟩
  have HIN := hide hin
  clear ha hc hst HB HV hin hl2
  have c0 := D0.out.c0
  have P0 := hide (PX.start D0.out)
  have y9 : Ext (W2.alloc (.cells #[.slice sa xs.length ca, .slice sb ss.length cb, .int .i64 off] 27)) ((W2.alloc (.cells #[.slice sa xs.length ca, .slice sb ss.length cb, .int .i64 off] 27)).alloc (.cells #[] 2)) := (Ext.refl _).alloc _ _
  have c0' := y9.box c0
  clear y9
  go_wp2_with fail
  clear c0 c0' D0
  have hsz9 : (W2.alloc (.cells #[.slice sa xs.length ca, .slice sb ss.length cb, .int .i64 off] 27)).heap.size = W2.heap.size + 1 := by simp
  rw [hsz9] at P0
  clear hsz9
  generalize hG0 : W2.heap.size + 1 = K at P0 ⊢
  generalize hBB : W2.heap.size = B at P0 ⊢
  clear hG0 hBB
  generalize (W2.alloc (.cells #[.slice sa xs.length ca, .slice sb ss.length cb, .int .i64 off] 27)).alloc (.cells #[] 2) = V2 at P0 ⊢
  generalize hg0 : (Value.slice (some ⟨K, 0, none⟩) 0 0) = vP0 at P0 ⊢
  go_loopw [6, 8] (fun o i wr => ∃ (P : List Int), i = .int .i64 P.length ∧ P.length ≤ xs.length ∧ (∃ g c, o = .slice (some ⟨g, 0, none⟩) P.length c) ∧ PX w wr K b B (.slice sa xs.length ca) (.slice sb ss.length cb) xs ss off o P) (fun o i _ => xs.length - (intOf i).toNat)
  case atStart => exact ⟨[], rfl, by simp, ⟨_, _, hg0.symm⟩, P0.out⟩
  case round =>
    obtain ⟨P, rfl, hP, ⟨g, c, rfl⟩, hPX⟩ := hrel
    have HP := hide hPX
    clear hPX P0 hg0
    by_cases hlt : P.length < xs.length
    · have hlt1 : (P.length : Int) < (xs.length : Int) := by omega
      go_wp2_with (at_builtin; (refine wpList_append_own _ rfl _ _ 22 rfl K 2 i0 (.int .i64 0) 1 8 Try.underlying22 hi0 hz0 hz1 hz2 rfl (by decide) _ _ _ rfl (HP.out.own.alloc _) ⟨wr.heap.size, 0, none⟩ 1 1 [.int .i64 ((P.length : Int))] rfl rfl (cell_one_new _ _ _) (one_val _) (by unfold maxLen; omega) (by omega) (HP.out.szP ((P.length : Int))) ?_); intro v3 w3 hown3 hgrow3 hnil3; have HSt := hide (HP.out.step ((P.length : Int)) hown3 hgrow3); have hnn : ¬ v3 = .slice none 0 0 := (fun e => by have := (hnil3.1 e).2; omega); obtain ⟨g3, c3, rfl⟩ := own_blk hown3 hnn; clear hown3 hgrow3 hnil3 hnn)

      go_wp2
      go_roundw
      · exact ⟨P ++ [(P.length : Int)], by simp, by simp; omega, ⟨g3, c3, by simp⟩, HSt.out⟩
      · simp [intOf]; omega
    · have hlt1 : ¬ (P.length : Int) < (xs.length : Int) := by omega
      obtain ⟨n, hn⟩ : ∃ n : Nat, n = P.length := ⟨_, rfl⟩
      have hnx : Hid (n = xs.length) := by show n = xs.length; omega
      have hn5 : n ≤ 5 := by omega
      rw [← hn] at HP ⊢
      have hlt2 : ¬ (n : Int) < (xs.length : Int) := by omega
      clear hn hP hlt hlt1
      go_wp2_with fail
      clear hlt2
      go_loopw [9] (fun i wr2 => ∃ (k : Int) (Q : List Int), i = .int .i64 k ∧ (-1 ≤ k ∧ k < n) ∧ PX w wr2 K b B (.slice sa xs.length ca) (.slice sb ss.length cb) xs ss off (.slice (some ⟨g, 0, none⟩) n c) Q) (fun i _ => (intOf i).toNat)
      case atStart => exact ⟨(xs.length : Int) - 1, P, rfl, by have := hnx.out; omega, HP.out⟩
      case round =>
        obtain ⟨k, Q, rfl, hk, hPX⟩ := hrel
        have HQ := hide hPX
        clear hPX HP
        by_cases hp : 0 < k
        · obtain ⟨kk, hkk⟩ : ∃ kk : Nat, k = (kk : Int) := ⟨k.toNat, by omega⟩
          subst hkk
          go_wp2_with fail
          refine (HQ.out.next ((kk : Int) + 1)).mono ?_
          rintro e U1 ⟨z1, rfl, hz1', p1⟩
          obtain ⟨jj, hjj⟩ : ∃ jj : Nat, z1 = (jj : Int) := ⟨z1.toNat, by omega⟩
          subst hjj
          have HQ1 := hide p1
          clear p1 HQ
          obtain ⟨hl, _, hrow, hfz, hset⟩ := HQ1.out.row
          have qk := hrow kk (by omega)
          have qj := hrow jj (by omega)
          rw [Nat.zero_add] at qk qj
          generalize Q.getD kk 0 = x at qk
          generalize Q.getD jj 0 = y at qj
          have HQ2 := hide (hset kk y)
          obtain ⟨_, _, hrow2, hfz2, hset2⟩ := HQ2.out.row
          have qj2 := hrow2 jj (by simp; omega)
          rw [Nat.zero_add] at qj2
          generalize (Q.set kk y).getD jj 0 = y2 at qj2
          have HQ3 := hide (hset2 jj x)
          have k0 : (0 : Int) ≤ (kk : Int) := Int.natCast_nonneg _
          have k1 : (kk : Int) < (n : Int) := by omega
          have j0 : (0 : Int) ≤ (jj : Int) := Int.natCast_nonneg _
          have j1 : (jj : Int) < (n : Int) := by omega
          clear hrow hset hrow2 hset2 hl HQ1 HQ2
          go_wp2
          go_roundw
          · exact ⟨(kk : Int) - 1, _, rfl, by omega, HQ3.out⟩
          · simp [intOf]; omega
        · have hQl : Hid (Q.length = n) := HQ.out.row.1
          go_wp2_with fail
          refine (HQ.out.next 12).mono ?_
          rintro e U1 ⟨z, rfl, hz, p1⟩
          have HR := hide p1
          clear p1 HQ
          rcases (show z = 0 ∨ z = 1 ∨ 2 ≤ z by omega) with q | q | q
          · subst q
            have HRo : Hid (U1.ownsRow K 2 1 (.slice (some ⟨g, 0, none⟩) n c) n (Q.map (Value.int .i64))) := by
              show U1.ownsRow K 2 1 _ _ _
              have := HR.out.own
              rw [hQl.out] at this
              exact this
            go_wp2_with (at_builtin; (refine wpList_append_own _ rfl _ _ 22 rfl K 2 i0 (.int .i64 0) 1 8 Try.underlying22 hi0 hz0 hz1 hz2 rfl (by decide) _ _ _ rfl (HRo.out.alloc _) ⟨U1.heap.size, 0, none⟩ 1 1 [.int .i64 (0)] rfl rfl (cell_one_new _ _ _) (one_val _) (by unfold maxLen; omega) (by omega) (HR.out.szP (0)) ?_); intro v3 w3 hown3 hgrow3 hnil3; have HSt := hide (HR.out.step (0) (by rw [hQl.out]; exact hown3) hgrow3); have hnn : ¬ v3 = .slice none 0 0 := (fun e => by have := (hnil3.1 e).2; omega); obtain ⟨g3, c3, rfl⟩ := own_blk hown3 hnn; clear hown3 hgrow3 hnil3 hnn; have c0 := HSt.out.dx.c0; have c1 := HSt.out.dx.c1; have c2 := HSt.out.dx.c2; have r0 := HSt.out.dx.rb.r0; have r1 := HSt.out.dx.rb.r1; have r2 := HSt.out.dx.rb.r2; have rf := HSt.out.dx.rb.rf)

            exact bodyPost_ret (v := .tuple #[.agg #[.slice sa xs.length ca, .slice sb ss.length cb, .int .i64 off], .slice (some ⟨g3, 0, none⟩) (n + 1) c3]) (by simp [results, Try.results47, go_sem, set3_0 r0, set3_1 r1, set3_2 r2]) rfl (PX.done HSt.out hlen (by rw [List.length_append, hQl.out]; rfl) (by omega))

          · subst q
            rcases (show n = 0 ∨ 0 < n by omega) with h0 | h0
            · have hdn : ¬ (0 : Int) < (xs.length : Int) := by have := hnx.out; omega
              have ddn : decide ((0 : Int) < (xs.length : Int)) = false := decide_eq_false hdn
              clear h0
              have c0 := HR.out.dx.c0
              have c1 := HR.out.dx.c1
              have c2 := HR.out.dx.c2
              have r0 := HR.out.dx.rb.r0
              have r1 := HR.out.dx.rb.r1
              have r2 := HR.out.dx.rb.r2
              have rf := HR.out.dx.rb.rf
              go_wp2
              exact bodyPost_ret (v := .tuple #[.agg #[.slice sa xs.length ca, .slice sb ss.length cb, .int .i64 off], .slice (some ⟨g, 0, none⟩) (n) c]) (by simp [results, Try.results47, go_sem, set3_0 r0, set3_1 r1, set3_2 r2]) rfl (PX.done HR.out hlen (hQl.out) (by omega))

            · have hdn : (0 : Int) < (xs.length : Int) := by have := hnx.out; omega
              have ddn : decide ((0 : Int) < (xs.length : Int)) = true := decide_eq_true hdn
              have hn0 : (0 : Int) < (n : Int) := by omega
              go_wp2_with fail
              refine (HR.out.next ((xs.length : Int) + 2)).mono ?_
              rintro e U2 ⟨z2, rfl, hz2', p2⟩
              have HR2 := hide p2
              clear p2 HR
              obtain ⟨hl, _, hrow, hfz, hset⟩ := HR2.out.row
              have q0 := hrow 0 (by omega)
              rw [Nat.zero_add] at q0
              generalize Q.getD 0 0 = x at q0
              have HR3 := hide (hset 0 (z2 - 1))
              clear hrow hset hl HR2
              have c0 := HR3.out.dx.c0
              have c1 := HR3.out.dx.c1
              have c2 := HR3.out.dx.c2
              have r0 := HR3.out.dx.rb.r0
              have r1 := HR3.out.dx.rb.r1
              have r2 := HR3.out.dx.rb.r2
              have rf := HR3.out.dx.rb.rf
              go_wp2
              exact bodyPost_ret (v := .tuple #[.agg #[.slice sa xs.length ca, .slice sb ss.length cb, .int .i64 off], .slice (some ⟨g, 0, none⟩) (n) c]) (by simp [results, Try.results47, go_sem, set3_0 r0, set3_1 r1, set3_2 r2]) rfl (PX.done HR3.out hlen (by rw [List.length_set]; exact hQl.out) (by omega))

          · have d0 : (z == 0) = false := by simp; omega
            have d1 : (z == 1) = false := by simp; omega
            have c0 := HR.out.dx.c0
            have c1 := HR.out.dx.c1
            have c2 := HR.out.dx.c2
            have r0 := HR.out.dx.rb.r0
            have r1 := HR.out.dx.rb.r1
            have r2 := HR.out.dx.rb.r2
            have rf := HR.out.dx.rb.rf
            go_wp2
            exact bodyPost_ret (v := .tuple #[.agg #[.slice sa xs.length ca, .slice sb ss.length cb, .int .i64 off], .slice (some ⟨g, 0, none⟩) (n) c]) (by simp [results, Try.results47, go_sem, set3_0 r0, set3_1 r1, set3_2 r2]) rfl (PX.done HR.out hlen (hQl.out) (by omega))
end Go.Proofs.Ytiekkninnjffpaa
