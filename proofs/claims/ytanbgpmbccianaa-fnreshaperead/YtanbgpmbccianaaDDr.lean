import Derived.Test.YtanbgpmbccianaaM10
import Derived.Deep.DeepCutAuto
namespace Go.Proofs.Ytanbgpmbccianaa
open Go.ChangeShapes Go.RowKit
set_option linter.unusedSimpArgs false
set_option linter.unusedVariables false
variable {G : Gh} {s t : SS}

/-- DrawReshape, as numbers. -/
def baseD (ds : List Int) (s : SS) : V3 × SS :=
  match anyD ds s with
  | (v, s1) => match nextL ds s1 2 with
    | (z, s2) => if z = 0 then (match shapeD ds s2 with
        | (ys, s3) => match nextL ds s3 9 with
          | (o, s4) => (denseV ys o, s4)) else (v, s2)
def facR (ds : List Int) (cn : Int) (s : SS) : Nat → List Int × SS
  | 0 => ([cn], s)
  | k + 1 => match facR ds cn s k with
    | (P, s1) => if 0 < cn ∧ cn % ((k + 2 : Nat) : Int) = 0 then (match nextL ds s1 2 with
        | (z, s2) => match nextL ds s2 4 with
          | (y, s3) => (if y = 0 then [((k + 2 : Nat) : Int), 1, cn / ((k + 2 : Nat) : Int)] else if z = 0 then [cn / ((k + 2 : Nat) : Int), ((k + 2 : Nat) : Int)] else P, s3)) else (P, s1)
def endD (ds : List Int) (cn : Int) (P : List Int) (s : SS) : List Int :=
  match nextL ds s 16 with
  | (k, _) => if k = 0 then P ++ [2] else if k = 1 then [0, 5] else if k = 2 then [1, 1, 1, cn, 1] else if k = 3 then [-1, -cn] else P
def reshD (ds : List Int) (s : SS) : V3 × List Int :=
  match baseD ds s with
  | (v, s1) => match facR ds (cntL v.1) s1 3 with
    | (P, s2) => (v, endD ds (cntL v.1) P s2)
theorem facR_n {ds : List Int} {cn : Int} {s1 sk : SS} {k' k : Nat} {Q : List Int} (h : facR ds cn s1 k' = (Q, sk)) (hk : k = k' + 2) (hm : ¬ (0 < cn ∧ cn % (k : Int) = 0)) : facR ds cn s1 (k' + 1) = (Q, sk) := by
  subst hk
  rw [facR, h]
  dsimp only
  rw [if_neg hm]
theorem facR_y {ds : List Int} {cn z y : Int} {s1 sk s5 s6 : SS} {k' k : Nat} {Q R : List Int} (h : facR ds cn s1 k' = (Q, sk)) (hk : k = k' + 2) (hm : 0 < cn ∧ cn % (k : Int) = 0) (hr : nextL ds sk 2 = (z, s5)) (hr2 : nextL ds s5 4 = (y, s6)) (hR : R = if y = 0 then [(k : Int), 1, cn / (k : Int)] else if z = 0 then [cn / (k : Int), (k : Int)] else Q) : facR ds cn s1 (k' + 1) = (R, s6) := by
  subst hk
  rw [facR, h]
  dsimp only
  rw [if_pos hm, hr]
  dsimp only
  rw [hr2]
  dsimp only
  rw [hR]
theorem cntL_bd (xs : List Int) : -1 ≤ cntL xs ∧ cntL xs ≤ 4096 := by
  unfold cntL
  split
  · next h =>
    have h1 := prod_plen (fun n hn => (good_nonneg h n hn).1)
    have h2 := h.2.2
    omega
  · omega
theorem SX.mutB {W W' : World} {K b B : Nat} {vA : Value} (k : SX W K b G t) (m : Mut B W W') (hB : B ≠ b) (hc : W.cell? ⟨B, 0, none⟩ = some vA) (hv : ∃ (sl : Option Addr) (n c : Nat), vA = .slice sl n c) : SX W' K b G t := by
  have h1 : SrcH W K b G.sv G.ds t G.size := k
  have hb : b ≠ B := fun e => hB e.symm
  obtain ⟨sl, n, c, rfl⟩ := hv
  refine ⟨⟨m.box hb h1.src.c0, m.box hb h1.src.c1, m.box hb h1.src.c2, m.box hb h1.src.c3, fun o => (m.fz _).trans (h1.src.fz o), h1.src.atn, h1.src.nle, h1.src.mix0, h1.src.mix1, h1.src.size0, h1.src.size1, h1.src.byt, ?_⟩, h1.hb, h1.hg⟩
  rcases h1.src.code with q | ⟨g, cap, h2, h3, h4⟩
  · exact Or.inl q
  · by_cases e0 : G.ds.length = 0
    · refine Or.inr ⟨g, cap, h2, h3, fun j hj => ?_⟩
      omega
    · refine Or.inr ⟨g, cap, h2, h3, fun j hj => m.box (fun e => ?_) (h4 j hj)⟩
      subst e
      have := h4 0 (by omega)
      rw [hc] at this
      cases this
/-- Another view lies in the box. -/
theorem DX.setV {w W W' : World} {K b B : Nat} {vA vB vA' vB' : Value} {xs ss xs' ss' : List Int} {off off' : Int} (h : DX w W G s K b B vA vB xs ss off) (k : SX W' K b G t) (x : W.grownBy W' (some b)) (hd : DV W' K vA' vB' xs' ss') :
    W'.cell? ⟨B, 0, none⟩ = some vA ∧ W'.cell? ⟨B, 1, none⟩ = some vB ∧ W'.cell? ⟨B, 2, none⟩ = some (.int .i64 off) ∧ DX w (((W'.setCell ⟨B, 0, none⟩ vA').setCell ⟨B, 1, none⟩ vB').setCell ⟨B, 2, none⟩ (.int .i64 off')) G t W'.heap.size b B vA' vB' xs' ss' off' := by
  have kk := h.gb k x
  have m : Mut B W' (((W'.setCell ⟨B, 0, none⟩ vA').setCell ⟨B, 1, none⟩ vB').setCell ⟨B, 2, none⟩ (.int .i64 off')) := (((Mut.refl _ _).setCell _ _).setCell _ _).setCell _ _
  have hBK := h.hBK
  have hbK := h.src.hb
  have hb := h.hb
  have hK := kk.hK
  have hRB := h.hRB
  have hs : SX (((W'.setCell ⟨B, 0, none⟩ vA').setCell ⟨B, 1, none⟩ vB').setCell ⟨B, 2, none⟩ (.int .i64 off')) W'.heap.size b G t := by
    obtain ⟨sl, cl, e⟩ := own_form2 kk.a
    exact (k.mutB m h.hB kk.c0 ⟨sl, _, cl, e⟩).mono hK
  refine ⟨kk.c0, kk.c1, kk.c2, hs, own_low (own_chain3 hd.a hBK _ _ _) (by omega), own_low (own_chain3 hd.c hBK _ _ _) (by omega), ((kk.bl.setCell (Nat.le_of_lt hRB) _).setCell (Nat.le_of_lt hRB) _).setCell (Nat.le_of_lt hRB) _, hb, m.size, set3_0 kk.c0, set3_1 kk.c1, set3_2 kk.c2, kk.rb.mut m (by omega), h.hB, by omega, hRB, fun o => (m.fz _).trans (kk.cf o), fun g hg => ?_, fun g hg => ?_⟩
  · have := hd.a.lt g hg; omega
  · have := hd.c.lt g hg; omega
/-- A literal of one's own. -/
theorem PX.lits {w W : World} {K b B : Nat} {vA vB : Value} {xs ss : List Int} {off : Int} (h : DX w W G s K b B vA vB xs ss off) (A : Array Value) (L : List Int) (hA : A = (L.map (Value.int .i64)).toArray) (hl : L.length ≤ 100) : PX w (W.alloc (.cells A 2)) G s K b B vA vB xs ss off (.slice (some ⟨W.heap.size, 0, none⟩) L.length L.length) L :=
  ⟨h.bel ((Ext.refl W).alloc _ 2).bl, own_lits A L hA h.hK hl⟩
/-- The answer of the first part. -/
def BaseOk (w : World) (G : Gh) (b B : Nat) (r : V3 × SS) (wx : World) : Prop := ∃ (K : Nat) (sa sb : Option Addr) (ca cb : Nat), (r.1.1.length ≤ 5 ∧ r.1.2.1.length ≤ 5) ∧ DX w wx G r.2 K b B (.slice sa r.1.1.length ca) (.slice sb r.1.2.1.length cb) r.1.1 r.1.2.1 r.1.2.2

set_option maxRecDepth 100000 in
set_option maxHeartbeats 4000000 in
theorem drawReshape_any {w : World} {v : Value} {cs : List Int} (h : Code w v cs) {r : V3 × List Int} (hr : reshD (cs.take 4000) (0, mixL cs.length (cs.take 4000)) = r) : Calls Try.prog 4 #[v] w fun e w' => DrawPOk w r.1 r.2 e w' := by
  have HR := hide hr
  clear hr
  obtain ⟨i0, hi0, hz0, hz1, hz2⟩ := info_parts info2
  have y0 : Ext w (w.alloc (.cells #[.slice none 0 0, .slice none 0 0, .int .i64 0] 25)) := (Ext.refl _).alloc _ _
  have HC := hide (h.keep y0.bl)
  obtain ⟨sv, cv, rfl, _, _⟩ := h
  clear y0
  go_enter Try.func4, Try.ntmps4
  go_wp2_with fail
  generalize hV : w.alloc (.cells #[.slice none 0 0, .slice none 0 0, .int .i64 0] 25) = V0 at HC ⊢
  have HV : Hid (V0 = w.alloc (.cells #[.slice none 0 0, .slice none 0 0, .int .i64 0] 25)) := hV.symm
  clear hV
  refine (source_any HC.out).mono ?_
  rintro e W1 ⟨b, vs, rfl, hS, hb, hB⟩
  obtain ⟨G, hG⟩ : ∃ G : Gh, G = ⟨vs, cs.take 4000, sizeL (cs.take 4000)⟩ := ⟨_, rfl⟩
  obtain ⟨s0, hs0⟩ : ∃ s0 : SS, s0 = (0, mixL cs.length (cs.take 4000)) := ⟨_, rfl⟩
  have hsx : SX W1 W1.heap.size b G s0 := by subst hG; subst hs0; exact hS.h
  have HB : Hid (V0.heap.size ≤ b ∧ Below V0.heap.size V0 W1 ∧ b < W1.heap.size ∧ SX W1 W1.heap.size b G s0) := ⟨hb, hB, cell_lt hS.c0, hsx⟩
  have HR2 : Hid (reshD G.ds s0 = r) := by subst hG; subst hs0; exact HR.out
  clear hS hb hB HC hsx HR hG hs0
  go_wp2_with fail
  rcases hX : anyD G.ds s0 with ⟨⟨xs, ss, off⟩, s1⟩
  refine (drawAny_any HB.out.2.2.2 hX).mono ?_
  rintro e W2 ⟨sa, sb, ca, cb, rfl, ha, hc, ⟨hl1, hl2, hin⟩, hst⟩
  dsimp only at ha hc hl1 hl2 hin hst ⊢
  have HX := hide hX
  have D0 := hide (DX.make off HV.out HB.out.1 HB.out.2.1 HB.out.2.2.1 ha hc hst)
  have hlen : xs.length ≤ 5 ∧ ss.length ≤ 5 := ⟨hl1, hl2⟩
  clear ha hc hst HB HV hin hl1 hl2 hX
  go_wp2_with fail
  generalize hKK : W2.heap.size + 1 = K at D0
  generalize hBB : W2.heap.size = B at D0 ⊢
  clear hKK hBB
  generalize W2.alloc (.cells #[.slice sa xs.length ca, .slice sb ss.length cb, .int .i64 off] 25) = V2 at D0 ⊢
  refine (D0.out.next 2).mono ?_
  rintro e U1 ⟨z1, s2, Q1, rfl, hz1', d1⟩
  have D1 := hide d1
  have R1 := hide Q1
  clear d1 Q1 D0
  go_upto_if 16 with fail
  rcases hBD : baseD G.ds s0 with ⟨⟨xs2, ss2, off2⟩, s5⟩
  have HBD := hide hBD
  clear hBD
  go_cut [] (fun wx => BaseOk w G b B ((xs2, ss2, off2), s5) wx)
  case first =>
    rcases Classical.em (z1 = 0) with qq | qq
    · subst qq
      go_wp2_with fail
      have hsh := drawSh_any (ST.start D1.out.src D1.out.hK)
      rcases hS : shapeD G.ds s2 with ⟨ys, s3⟩
      rw [hS] at hsh
      refine hsh.mono ?_
      clear hsh
      rintro e W3 ⟨sx, cx, rfl, hlx, hL⟩
      dsimp only at hlx hL ⊢
      have HS := hide hS
      have L1 := hide hL
      clear hS hL
      go_wp2_with fail
      refine (L1.out.next 9).mono ?_
      rintro e W4 ⟨o4, s4, Q4, rfl, b4, l4⟩
      have L4 := hide l4
      have R4 := hide Q4
      clear l4 L1 Q4
      go_wp2_with fail
      rcases hDn : denseV ys o4 with ⟨xd, sd, od⟩
      refine (dense_any o4 (own_ints L4.out.own) hlx hDn).mono ?_
      rintro e W5 ⟨da, db, ea, eb, rfl, hd, hvi, hB5⟩
      dsimp only at hd hvi ⊢
      have hx : xs2 = xd ∧ ss2 = sd ∧ off2 = od ∧ s5 = s4 := by
        have e := HBD.out
        simp only [baseD, HX.out, R1.out, if_true, HS.out, R4.out, hDn, Prod.mk.injEq] at e
        exact ⟨e.1.1.symm, e.1.2.1.symm, e.1.2.2.symm, e.2.symm⟩
      obtain ⟨rfl, rfl, rfl, rfl⟩ := hx
      have hg5 := gb_tr L4.out.st.gb (gb_bel b hB5)
      have hk5 := L4.out.st.src.below (Below.mono hB5 (Nat.le_trans L4.out.st.hH L4.out.st.sz))
      obtain ⟨u0, u1, u2', hD5⟩ := D1.out.setV hk5 hg5 (hd.low (Nat.le_trans L4.out.st.hH L4.out.st.sz)) (off' := off2)
      have uf := (D1.out.gb hk5 hg5).cf
      have D5 : Hid (BaseOk w G b B ((xs2, ss2, off2), s5) _) := ⟨_, da, db, ea, eb, ⟨by have := hvi.1.1; show xs2.length ≤ 5; omega, by have := hvi.1.1; have := hvi.2.1; show ss2.length ≤ 5; omega⟩, hD5⟩
      clear hg5 hk5 hD5 hd hvi hB5 hDn
      go_wp2
      go_meet
      case rel => exact D5.out
    · have qd : (z1 == 0) = false := by simp [qq]
      have hx : xs2 = xs ∧ ss2 = ss ∧ off2 = off ∧ s5 = s2 := by
        have e := HBD.out
        simp only [baseD, HX.out, R1.out, if_neg qq, Prod.mk.injEq] at e
        exact ⟨e.1.1.symm, e.1.2.1.symm, e.1.2.2.symm, e.2.symm⟩
      obtain ⟨rfl, rfl, rfl, rfl⟩ := hx
      go_wp2
      go_meet
      case rel => exact ⟨K, sa, sb, ca, cb, hlen, D1.out⟩
  case rest =>
  obtain ⟨K2, sa2, sb2, ca2, cb2, hlen2, hD⟩ := hcut
  dsimp only at hlen2 hD
  have D2 := hide hD
  have HRS : Hid (r = ((xs2, ss2, off2), endD G.ds (cntL xs2) (facR G.ds (cntL xs2) s5 3).1 (facR G.ds (cntL xs2) s5 3).2)) := by
    show r = _
    rw [← HR2.out]
    simp only [reshD, HBD.out]
  clear hD D1 HR2 HBD HX R1
  have c0 := D2.out.c0
  go_wp2_with fail
  refine (l2Count_any (own_ints D2.out.a) (by omega)).mono ?_
  rintro e W3 ⟨rfl, rfl⟩
  have hcn := cntL_bd xs2
  generalize cntL xs2 = cn at hcn HRS ⊢
  have P0 := hide (PX.lits D2.out #[.int .i64 cn] [cn] rfl (by simp))
  clear c0 D2
  go_wp2_with fail
  go_loopw [7, 8] (fun o i wr => ∃ (k : Nat) (Q : List Int) (sk : SS), i = .int .i64 ((k + 2 : Nat) : Int) ∧ k ≤ 3 ∧ Q.length ≤ 3 ∧ (∃ g c, o = .slice (some ⟨g, 0, none⟩) Q.length c) ∧ Hid (facR G.ds cn s5 k = (Q, sk)) ∧ PX w wr G sk K2 b B (.slice sa2 xs2.length ca2) (.slice sb2 ss2.length cb2) xs2 ss2 off2 o Q) (fun o i _ => 5 - (intOf i).toNat)
  case atStart => exact ⟨0, [cn], s5, rfl, by omega, by simp, ⟨_, _, rfl⟩, (show facR _ _ _ 0 = _ from rfl), P0.out⟩
  case round =>
    obtain ⟨k', Q, sk, rfl, hk, hQ3, ⟨g, c, rfl⟩, HO, hPX⟩ := hrel
    have HP := hide hPX
    clear hPX P0
    obtain ⟨k, hkk⟩ : ∃ k : Nat, k = k' + 2 := ⟨_, rfl⟩
    rw [← hkk]
    have HKK := hide hkk
    have hkb : 2 ≤ k ∧ k ≤ 5 := by omega
    clear hkk
    by_cases hlt : k < 5
    · have hk1 : (k : Int) < 5 := by omega
      have hk2 : ¬ (k : Int) = 0 := by omega
      have hk3 : (0 : Int) < (k : Int) := by omega
      rcases Classical.em (0 < cn ∧ cn % (k : Int) = 0) with hm | hm
      · obtain ⟨hcp, hmm⟩ := hm
        have dm : (cn % (k : Int) == 0) = true := by simp [hmm]
        have dcp : decide (0 < cn) = true := decide_eq_true hcp
        have HM : Hid (0 < cn ∧ cn % (k : Int) = 0) := ⟨hcp, hmm⟩
        clear hmm
        go_wp2_with fail
        refine (HP.out.next 2).mono ?_
        rintro e W5 ⟨z, s6, Q5, rfl, bz, p5⟩
        have HP5 := hide p5
        have R5 := hide Q5
        clear p5 HP Q5
        have HL2 := hide (PX.lits HP5.out.dx #[.int .i64 (cn / (k : Int)), .int .i64 (k : Int)] [cn / (k : Int), (k : Int)] rfl (by simp))
        rcases Classical.em (z = 0) with hz | hz
        · have HZ := hide hz
          subst hz
          go_wp2_with fail
          refine (HL2.out.next 4).mono ?_
          rintro e W6 ⟨y, s7, Q6, rfl, byy, p6⟩
          have HP6 := hide p6
          have R6 := hide Q6
          clear p6 HL2 Q6
          rcases Classical.em (y = 0) with hy | hy
          · subst hy
            have HL3 := hide (PX.lits HP6.out.dx #[.int .i64 (k : Int), .int .i64 1, .int .i64 (cn / (k : Int))] [(k : Int), 1, cn / (k : Int)] rfl (by simp))
            go_wp2
            go_roundw
            · exact ⟨k' + 1, [(k : Int), 1, cn / (k : Int)], s7, by have := HKK.out; go_num, by have := HKK.out; omega, by simp, ⟨_, _, rfl⟩, facR_y HO.out HKK.out HM.out R5.out R6.out (by rw [if_pos rfl]), HL3.out⟩
            · simp [intOf]; omega
          · have dy : (y == 0) = false := by simp [hy]
            go_wp2
            go_roundw
            · exact ⟨k' + 1, [cn / (k : Int), (k : Int)], s7, by have := HKK.out; go_num, by have := HKK.out; omega, by simp, ⟨_, _, rfl⟩, facR_y HO.out HKK.out HM.out R5.out R6.out (by rw [if_neg hy, if_pos rfl]), HP6.out⟩
            · simp [intOf]; omega
        · have dz : (z == 0) = false := by simp [hz]
          go_wp2_with fail
          refine (HP5.out.next 4).mono ?_
          rintro e W6 ⟨y, s7, Q6, rfl, byy, p6⟩
          have HP6 := hide p6
          have R6 := hide Q6
          clear p6 HP5 HL2 Q6
          rcases Classical.em (y = 0) with hy | hy
          · subst hy
            have HL3 := hide (PX.lits HP6.out.dx #[.int .i64 (k : Int), .int .i64 1, .int .i64 (cn / (k : Int))] [(k : Int), 1, cn / (k : Int)] rfl (by simp))
            go_wp2
            go_roundw
            · exact ⟨k' + 1, [(k : Int), 1, cn / (k : Int)], s7, by have := HKK.out; go_num, by have := HKK.out; omega, by simp, ⟨_, _, rfl⟩, facR_y HO.out HKK.out HM.out R5.out R6.out (by rw [if_pos rfl]), HL3.out⟩
            · simp [intOf]; omega
          · have dy : (y == 0) = false := by simp [hy]
            go_wp2
            go_roundw
            · exact ⟨k' + 1, Q, s7, by have := HKK.out; go_num, by have := HKK.out; omega, hQ3, ⟨_, _, rfl⟩, facR_y HO.out HKK.out HM.out R5.out R6.out (by rw [if_neg hy, if_neg hz]), HP6.out⟩
            · simp [intOf]; omega
      · have HM := hide hm
        have hdd : (decide (0 < cn) = true ∧ 0 < cn ∧ (cn % (k : Int) == 0) = false) ∨ (decide (0 < cn) = false ∧ ¬ 0 < cn) := by
          by_cases q : 0 < cn
          · exact Or.inl ⟨decide_eq_true q, q, by simp; exact fun e => hm ⟨q, e⟩⟩
          · exact Or.inr ⟨decide_eq_false q, q⟩
        clear hm
        rcases hdd with ⟨d1, d2, d3⟩ | ⟨d1, d2⟩
        · go_wp2
          go_roundw
          · exact ⟨k' + 1, Q, sk, by have := HKK.out; go_num, by have := HKK.out; omega, hQ3, ⟨_, _, rfl⟩, facR_n HO.out HKK.out HM.out, HP.out⟩
          · simp [intOf]; omega
        · go_wp2
          go_roundw
          · exact ⟨k' + 1, Q, sk, by have := HKK.out; go_num, by have := HKK.out; omega, hQ3, ⟨_, _, rfl⟩, facR_n HO.out HKK.out HM.out, HP.out⟩
          · simp [intOf]; omega
    · have hk1 : ¬ (k : Int) < 5 := by omega
      have HO2 : Hid (facR G.ds cn s5 3 = (Q, sk)) := by
        show facR _ _ _ _ = _
        have e := HO.out
        rw [show k' = 3 by have := HKK.out; omega] at e
        exact e
      go_wp2_with fail
      refine (HP.out.next 16).mono ?_
      rintro e U9 ⟨z, s9, Q9, rfl, hz9, p9⟩
      have HR9 := hide p9
      have R9 := hide Q9
      clear p9 HP Q9
      have HE : Hid (r = ((xs2, ss2, off2), endD G.ds cn Q sk)) := by
        show r = _
        rw [HRS.out, HO2.out]
      clear HRS HO2 HO
      rcases (show z = 0 ∨ z = 1 ∨ z = 2 ∨ z = 3 ∨ 4 ≤ z by omega) with q | q | q | q | q
      · subst q
        have er : r = ((xs2, ss2, off2), Q ++ [2]) := by rw [HE.out]; simp [endD, R9.out]
        subst er
        go_wp2_with (at_builtin; (refine wpList_append_own _ rfl _ _ 23 rfl K2 2 i0 (.int .i64 0) 1 8 Try.underlying23 hi0 hz0 hz1 hz2 rfl (by decide) _ _ _ rfl (HR9.out.own.alloc _) ⟨U9.heap.size, 0, none⟩ 1 1 [.int .i64 2] rfl rfl (cell_one_new _ _ _) (one_val _) (by unfold maxLen; omega) (by omega) (HR9.out.szP 2) ?_); intro v3 w3 hown3 hgrow3 hnil3; have HSt := hide (HR9.out.step 2 hown3 hgrow3); have hnn : ¬ v3 = .slice none 0 0 := (fun e => by have := (hnil3.1 e).2; omega); obtain ⟨g3, c3, rfl⟩ := own_blk hown3 hnn; clear hown3 hgrow3 hnil3 hnn; have c0 := HSt.out.dx.c0; have c1 := HSt.out.dx.c1; have c2 := HSt.out.dx.c2; have r0 := HSt.out.dx.rb.r0; have r1 := HSt.out.dx.rb.r1; have r2 := HSt.out.dx.rb.r2; have rf := HSt.out.dx.rb.rf)
        exact bodyPost_ret (v := .tuple #[.agg #[.slice sa2 xs2.length ca2, .slice sb2 ss2.length cb2, .int .i64 off2], .slice (some ⟨g3, 0, none⟩) (Q.length + 1) c3]) (by simp [results, Try.results4, go_sem, set3_0 r0, set3_1 r1, set3_2 r2]) rfl (PX.done (P := Q ++ [2]) HSt.out hlen2 (by simp) (by first | omega | simp))
      · subst q
        have er : r = ((xs2, ss2, off2), [0, 5]) := by rw [HE.out]; simp [endD, R9.out]
        subst er
        have HLZ := hide (PX.lits HR9.out.dx #[.int .i64 0, .int .i64 5] [0, 5] rfl (by simp))
        have c0 := HLZ.out.dx.c0
        have c1 := HLZ.out.dx.c1
        have c2 := HLZ.out.dx.c2
        have r0 := HLZ.out.dx.rb.r0
        have r1 := HLZ.out.dx.rb.r1
        have r2 := HLZ.out.dx.rb.r2
        have rf := HLZ.out.dx.rb.rf
        go_wp2
        exact bodyPost_ret (v := .tuple #[.agg #[.slice sa2 xs2.length ca2, .slice sb2 ss2.length cb2, .int .i64 off2], .slice (some ⟨U9.heap.size, 0, none⟩) (2) 2]) (by simp [results, Try.results4, go_sem, set3_0 r0, set3_1 r1, set3_2 r2]) rfl (PX.done (P := [0, 5]) HLZ.out hlen2 (rfl) (by first | omega | simp))
      · subst q
        have er : r = ((xs2, ss2, off2), [1, 1, 1, cn, 1]) := by rw [HE.out]; simp [endD, R9.out]
        subst er
        have HLZ := hide (PX.lits HR9.out.dx #[.int .i64 1, .int .i64 1, .int .i64 1, .int .i64 cn, .int .i64 1] [1, 1, 1, cn, 1] rfl (by simp))
        have c0 := HLZ.out.dx.c0
        have c1 := HLZ.out.dx.c1
        have c2 := HLZ.out.dx.c2
        have r0 := HLZ.out.dx.rb.r0
        have r1 := HLZ.out.dx.rb.r1
        have r2 := HLZ.out.dx.rb.r2
        have rf := HLZ.out.dx.rb.rf
        go_wp2
        exact bodyPost_ret (v := .tuple #[.agg #[.slice sa2 xs2.length ca2, .slice sb2 ss2.length cb2, .int .i64 off2], .slice (some ⟨U9.heap.size, 0, none⟩) (5) 5]) (by simp [results, Try.results4, go_sem, set3_0 r0, set3_1 r1, set3_2 r2]) rfl (PX.done (P := [1, 1, 1, cn, 1]) HLZ.out hlen2 (rfl) (by first | omega | simp))
      · subst q
        have er : r = ((xs2, ss2, off2), [-1, -cn]) := by rw [HE.out]; simp [endD, R9.out]
        subst er
        have HLZ := hide (PX.lits HR9.out.dx #[.int .i64 (-1), .int .i64 (-cn)] [-1, -cn] rfl (by simp))
        have c0 := HLZ.out.dx.c0
        have c1 := HLZ.out.dx.c1
        have c2 := HLZ.out.dx.c2
        have r0 := HLZ.out.dx.rb.r0
        have r1 := HLZ.out.dx.rb.r1
        have r2 := HLZ.out.dx.rb.r2
        have rf := HLZ.out.dx.rb.rf
        go_wp2
        exact bodyPost_ret (v := .tuple #[.agg #[.slice sa2 xs2.length ca2, .slice sb2 ss2.length cb2, .int .i64 off2], .slice (some ⟨U9.heap.size, 0, none⟩) (2) 2]) (by simp [results, Try.results4, go_sem, set3_0 r0, set3_1 r1, set3_2 r2]) rfl (PX.done (P := [-1, -cn]) HLZ.out hlen2 (rfl) (by first | omega | simp))
      · have d0 : (z == 0) = false := by simp; omega
        have d1 : (z == 1) = false := by simp; omega
        have d2 : (z == 2) = false := by simp; omega
        have d3 : (z == 3) = false := by simp; omega
        have er : r = ((xs2, ss2, off2), Q) := by rw [HE.out]; simp [endD, R9.out, show ¬ z = 0 by omega, show ¬ z = 1 by omega, show ¬ z = 2 by omega, show ¬ z = 3 by omega]
        subst er
        have c0 := HR9.out.dx.c0
        have c1 := HR9.out.dx.c1
        have c2 := HR9.out.dx.c2
        have r0 := HR9.out.dx.rb.r0
        have r1 := HR9.out.dx.rb.r1
        have r2 := HR9.out.dx.rb.r2
        have rf := HR9.out.dx.rb.rf
        go_wp2
        exact bodyPost_ret (v := .tuple #[.agg #[.slice sa2 xs2.length ca2, .slice sb2 ss2.length cb2, .int .i64 off2], .slice (some ⟨g, 0, none⟩) (Q.length) c]) (by simp [results, Try.results4, go_sem, set3_0 r0, set3_1 r1, set3_2 r2]) rfl (PX.done (P := Q) HR9.out hlen2 (rfl) (by first | omega | simp))
end Go.Proofs.Ytanbgpmbccianaa
