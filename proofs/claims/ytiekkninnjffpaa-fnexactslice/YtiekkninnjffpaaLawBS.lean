import Derived.Test.YtiekkninnjffpaaMarks2
namespace Go.Proofs.Ytiekkninnjffpaa
open Go.ChangeShapes Go.RowKit
set_option linter.unusedSimpArgs false
set_option linter.unusedVariables false

def LawOk (w : World) (e : Ending) (w' : World) : Prop := e = .returned (.bool true) ∧ Below w.heap.size w w'

theorem rowB {w : World} {b n : Nat} {L : List Int} (h : Row w b 0 L) (hn : n = L.length) : IntsB w b (b + 1) (.slice (some ⟨b, 0, none⟩) n n) L := ⟨_, _, by rw [hn], Or.inr ⟨b, 0, rfl, Nat.le_refl _, Nat.lt_succ_self _, h⟩⟩
theorem ownB {w : World} {lo cap : Nat} {sa : Option Addr} {L : List Int} (h : OwnI w lo sa L) : IntsB w lo w.heap.size (.slice sa L.length cap) L := by
  refine ⟨sa, cap, rfl, ?_⟩
  rcases h with h | ⟨g, h1, h2, h3, _⟩
  · exact Or.inl h
  · by_cases e : L = []
    · exact Or.inl e
    · have hl : 0 < L.length := List.length_pos_iff.2 e
      exact Or.inr ⟨g, 0, h1, h2, cell_lt (h3 0 hl), h3⟩
/-- The answer of BroadcastShape, its code and list named. -/
def BS2 (w : World) (c : Int) (L : List Int) (e : Ending) (w' : World) : Prop :=
  ∃ (sa : Option Addr) (cap : Nat), e = .returned (.agg #[.int .i64 c, .slice sa L.length cap]) ∧ OwnI w' w.heap.size sa L ∧ Bel w w'
theorem bs2_of {w : World} {xs ys : List Int} {c : Int} {L : List Int} {e : Ending} {w' : World} (h : BSOk w xs ys e w') (hb : bsL xs ys = (c, L)) : BS2 w c L e w' := by
  obtain ⟨sa, cap, h1, h2, h3⟩ := h
  rw [hb] at h1 h2
  exact ⟨sa, cap, h1, h2, h3⟩
theorem bsL_len (xs ys : List Int) : (bsL xs ys).2.length ≤ 4 := by
  unfold bsL
  split
  · next h => rw [jn_len]; have := h.1.1; have := h.2.1.1; omega
  · simp

set_option maxRecDepth 100000 in
set_option maxHeartbeats 8000000 in
theorem law (w : World) (vA vB : Value) (xs ys : List Int) (hA : Ints w vA xs) (hB : Ints w vB ys) (lx : xs.length ≤ 1048576) (ly : ys.length ≤ 1048576) :
    Calls Try.prog 4 #[vA, vB] w fun e w' => LawOk w e w' := by
  obtain ⟨c, L, hcl⟩ : ∃ c L, bsL xs ys = (c, L) := ⟨_, _, rfl⟩
  have hL4 : L.length ≤ 4 := by have := bsL_len xs ys; rw [hcl] at this; exact this
  have HCL := hide hcl
  clear hcl
  have HA := hide hA.bound
  have HB := hide hB.bound
  obtain ⟨sA, cA, rfl, _⟩ := hA
  obtain ⟨sB, cB, rfl, _⟩ := hB
  have nx : ¬ (1048576 : Int) < (xs.length : Int) := by omega
  have ny : ¬ (1048576 : Int) < (ys.length : Int) := by omega
  go_enter Try.func4, Try.ntmps4
  go_wp2_with fail
  refine (toInts_any HA.out.ints lx).mono ?_
  rintro e w1 ⟨rfl, ht1, x1, s1⟩
  have HB1 := hide (HB.out.keep x1.bl)
  go_wp2_with fail
  refine (toInts_any HB1.out.ints ly).mono ?_
  rintro e w2 ⟨rfl, ht2, x2, s2⟩
  have HT1 := hide ((ht1.ext x2).ints (n := xs.length) (cap := xs.length) rfl)
  have HT2 := hide (ht2.ints (n := ys.length) (cap := ys.length) rfl)
  have Z2 := hide (x1.trans x2).bl
  clear ht1 ht2 x1 x2 HB1
  go_wp2_with fail
  refine (sBS_any HT1.out HT2.out lx ly).mono ?_
  rintro e w3 h3
  obtain ⟨sw, cw, rfl, ow, b3⟩ := bs2_of h3 HCL.out
  clear h3 HT1 HT2
  have y3 : Bel w3 (w3.alloc (.cells #[.int .i64 c, .slice sw L.length cw] 32)) := ((Ext.refl w3).alloc _ _).bl
  have n3 := fun j => new_cell w3 #[.int .i64 c, .slice sw L.length cw] 32 w3.heap.size rfl j
  have kw0 := n3 0
  have kw1 := n3 1
  have IW := hide ((ownB (cap := cw) ow).keep y3)
  have Z3 := hide ((Bel.tr Z2.out b3).tr y3)
  have HA3 := hide (HA.out.keep Z3.out)
  have HB3 := hide (HB.out.keep Z3.out)
  have sz3 : Hid (w.heap.size ≤ w2.heap.size ∧ w2.heap.size ≤ w3.heap.size ∧ (w3.alloc (.cells #[.int .i64 c, .slice sw L.length cw] 32)).heap.size = w3.heap.size + 1) := ⟨Below.size Z2.out, Below.size b3, by simp⟩
  clear n3 y3 ow b3 HA HB Z2 s1 s2
  go_wp2_with fail
  generalize hW3 : w3.alloc (.cells #[.int .i64 c, .slice sw L.length cw] 32) = W3 at kw0 kw1 IW Z3 HA3 HB3 sz3 ⊢
  clear hW3
  refine (toInts_any HA3.out.ints lx).mono ?_
  rintro e w4 ⟨rfl, ht4, x4, s4⟩
  have HB4 := hide (HB3.out.keep x4.bl)
  go_wp2_with fail
  refine (toInts_any HB4.out.ints ly).mono ?_
  rintro e w5 ⟨rfl, ht5, x5, s5⟩
  have IX0 := hide (rowB (ht4.ext x5) (n := xs.length) rfl)
  have IX1 := hide (rowB ht5 (n := ys.length) rfl)
  have fX0 := fun o => (x4.trans x5).unfrozen (b := W3.heap.size) (Nat.le_refl _) o
  have fX1 := fun o => x5.unfrozen (b := w4.heap.size) (Nat.le_refl _) o
  have x45 := (x4.trans x5).bl
  have sz5 : Hid (W3.heap.size < w4.heap.size ∧ w4.heap.size < w5.heap.size) := ⟨s4, s5⟩
  clear ht4 ht5 x4 x5 s4 s5 HB4
  go_wp2_with fail
  refine (iBS_any IX0.out.ints IX1.out.ints lx ly).mono ?_
  rintro e w6 h6
  obtain ⟨sg, cg, rfl, og, b6⟩ := bs2_of h6 HCL.out
  clear h6
  have y6 : Bel w6 (w6.alloc (.cells #[.int .i64 c, .slice sg L.length cg] 32)) := ((Ext.refl w6).alloc _ _).bl
  have n6 := fun j => new_cell w6 #[.int .i64 c, .slice sg L.length cg] 32 w6.heap.size rfl j
  have kg0 := n6 0
  have kg1 := n6 1
  have IG := hide ((ownB (cap := cg) og).keep y6)
  have b56 := Bel.tr b6 y6
  have b36 := Bel.tr x45 b56
  have FX0 := hide (FZ.keep (L := xs) (Or.inr ⟨W3.heap.size, 0, xs.length, xs.length, rfl, by have := sz5.out; omega, fX0⟩) b56)
  have FX1 := hide (FZ.keep (L := ys) (Or.inr ⟨w4.heap.size, 0, ys.length, ys.length, rfl, by have := sz5.out; omega, fX1⟩) b56)
  have fg : FZ w6 (.slice sg L.length cg) L := by
    rcases og with h | ⟨g, h1, h2, h3, h4⟩
    · exact Or.inl h
    · by_cases e : L = []
      · exact Or.inl e
      · have hl : 0 < L.length := List.length_pos_iff.2 e
        exact Or.inr ⟨g, 0, _, _, by rw [h1], cell_lt (h3 0 hl), h4⟩
  have FG := hide (fg.keep y6)
  have jw0 := b36.box kw0
  have jw1 := b36.box kw1
  have IW6 := hide (IW.out.keep b36)
  have JX0 := hide (IX0.out.keep b56)
  have JX1 := hide (IX1.out.keep b56)
  have Z6 := hide (Z3.out.tr b36)
  have HA6 := hide (HA3.out.keep b36)
  have HB6 := hide (HB3.out.keep b36)
  have sz6 : Hid (w5.heap.size ≤ w6.heap.size ∧ (w6.alloc (.cells #[.int .i64 c, .slice sg L.length cg] 32)).heap.size = w6.heap.size + 1) := ⟨Below.size b6, by simp⟩
  clear fg n6 y6 og b6 b56 b36 x45 fX0 fX1 kw0 kw1 IW IX0 IX1 Z3 HA3 HB3
  go_wp2_with fail
  generalize hW6 : w6.alloc (.cells #[.int .i64 c, .slice sg L.length cg] 32) = W6 at jw0 jw1 kg0 kg1 IW6 IG FG JX0 JX1 FX0 FX1 Z6 HA6 HB6 sz6 ⊢
  clear hW6
  have akw0 := jw0
  have akw1 := jw1
  have akg0 := kg0
  have akg1 := kg1
  have aIW := IW6
  have aIG := IG
  have aFG := FG
  have aX0 := JX0
  have aX1 := JX1
  have aF0 := FX0
  have aF1 := FX1
  have aA := HA6
  have aB := HB6
  have aZ := Z6
  have aS := hide (Nat.le_of_eq sz6.out.2.symm)
  clear jw0 jw1 kg0 kg1 IW6 IG FG JX0 JX1 FX0 FX1 HA6 HB6 Z6
  refine (eqSR_true aIG.out.ints aIW.out.ints (by omega)).mono ?_
  rintro e w7 ⟨rfl, x7⟩
  have bkw0 := Bel.box (x7.bl) akw0
  have bkw1 := Bel.box (x7.bl) akw1
  have bkg0 := Bel.box (x7.bl) akg0
  have bkg1 := Bel.box (x7.bl) akg1
  have bIW := hide (aIW.out.keep (x7.bl))
  have bIG := hide (aIG.out.keep (x7.bl))
  have bFG := hide (aFG.out.keep (x7.bl))
  have bX0 := hide (aX0.out.keep (x7.bl))
  have bX1 := hide (aX1.out.keep (x7.bl))
  have bF0 := hide (aF0.out.keep (x7.bl))
  have bF1 := hide (aF1.out.keep (x7.bl))
  have bA := hide (aA.out.keep (x7.bl))
  have bB := hide (aB.out.keep (x7.bl))
  have bZ := hide (Below.trans aZ.out (Below.mono (x7.bl) (Below.size aZ.out)))
  have bS := hide (Nat.le_trans aS.out (Below.size (x7.bl)))
  clear akw0 akw1 akg0 akg1 aIW aIG aFG aX0 aX1 aF0 aF1 aA aB aZ aS
  clear x7
  go_wp2_with fail
  refine (toInts_any bA.out.ints lx).mono ?_
  rintro e w8 ⟨rfl, h8, x8, _⟩
  have H8 := hide (h8.ints (n := xs.length) (cap := xs.length) rfl)
  clear h8
  have ckw0 := Bel.box (x8.bl) bkw0
  have ckw1 := Bel.box (x8.bl) bkw1
  have ckg0 := Bel.box (x8.bl) bkg0
  have ckg1 := Bel.box (x8.bl) bkg1
  have cIW := hide (bIW.out.keep (x8.bl))
  have cIG := hide (bIG.out.keep (x8.bl))
  have cFG := hide (bFG.out.keep (x8.bl))
  have cX0 := hide (bX0.out.keep (x8.bl))
  have cX1 := hide (bX1.out.keep (x8.bl))
  have cF0 := hide (bF0.out.keep (x8.bl))
  have cF1 := hide (bF1.out.keep (x8.bl))
  have cA := hide (bA.out.keep (x8.bl))
  have cB := hide (bB.out.keep (x8.bl))
  have cZ := hide (Below.trans bZ.out (Below.mono (x8.bl) (Below.size bZ.out)))
  have cS := hide (Nat.le_trans bS.out (Below.size (x8.bl)))
  clear bkw0 bkw1 bkg0 bkg1 bIW bIG bFG bX0 bX1 bF0 bF1 bA bB bZ bS
  clear x8
  go_wp2_with fail
  refine (eqInts_any cX0.out.ints H8.out (by omega)).mono ?_
  rintro e w9 ⟨rfl, x9⟩
  rw [show decide (xs = xs) = true from by simp]
  clear H8
  have dkw0 := Bel.box (x9.bl) ckw0
  have dkw1 := Bel.box (x9.bl) ckw1
  have dkg0 := Bel.box (x9.bl) ckg0
  have dkg1 := Bel.box (x9.bl) ckg1
  have dIW := hide (cIW.out.keep (x9.bl))
  have dIG := hide (cIG.out.keep (x9.bl))
  have dFG := hide (cFG.out.keep (x9.bl))
  have dX0 := hide (cX0.out.keep (x9.bl))
  have dX1 := hide (cX1.out.keep (x9.bl))
  have dF0 := hide (cF0.out.keep (x9.bl))
  have dF1 := hide (cF1.out.keep (x9.bl))
  have dA := hide (cA.out.keep (x9.bl))
  have dB := hide (cB.out.keep (x9.bl))
  have dZ := hide (Below.trans cZ.out (Below.mono (x9.bl) (Below.size cZ.out)))
  have dS := hide (Nat.le_trans cS.out (Below.size (x9.bl)))
  clear ckw0 ckw1 ckg0 ckg1 cIW cIG cFG cX0 cX1 cF0 cF1 cA cB cZ cS
  clear x9
  go_wp2_with fail
  refine (toInts_any dB.out.ints ly).mono ?_
  rintro e w10 ⟨rfl, h10, x10, _⟩
  have H10 := hide (h10.ints (n := ys.length) (cap := ys.length) rfl)
  clear h10
  have fkw0 := Bel.box (x10.bl) dkw0
  have fkw1 := Bel.box (x10.bl) dkw1
  have fkg0 := Bel.box (x10.bl) dkg0
  have fkg1 := Bel.box (x10.bl) dkg1
  have fIW := hide (dIW.out.keep (x10.bl))
  have fIG := hide (dIG.out.keep (x10.bl))
  have fFG := hide (dFG.out.keep (x10.bl))
  have fX0 := hide (dX0.out.keep (x10.bl))
  have fX1 := hide (dX1.out.keep (x10.bl))
  have fF0 := hide (dF0.out.keep (x10.bl))
  have fF1 := hide (dF1.out.keep (x10.bl))
  have fA := hide (dA.out.keep (x10.bl))
  have fB := hide (dB.out.keep (x10.bl))
  have fZ := hide (Below.trans dZ.out (Below.mono (x10.bl) (Below.size dZ.out)))
  have fS := hide (Nat.le_trans dS.out (Below.size (x10.bl)))
  clear dkw0 dkw1 dkg0 dkg1 dIW dIG dFG dX0 dX1 dF0 dF1 dA dB dZ dS
  clear x10
  go_wp2_with fail
  refine (eqInts_any fX1.out.ints H10.out (by omega)).mono ?_
  rintro e w11 ⟨rfl, x11⟩
  rw [show decide (ys = ys) = true from by simp]
  clear H10
  have gkw0 := Bel.box (x11.bl) fkw0
  have gkw1 := Bel.box (x11.bl) fkw1
  have gkg0 := Bel.box (x11.bl) fkg0
  have gkg1 := Bel.box (x11.bl) fkg1
  have gIW := hide (fIW.out.keep (x11.bl))
  have gIG := hide (fIG.out.keep (x11.bl))
  have gFG := hide (fFG.out.keep (x11.bl))
  have gX0 := hide (fX0.out.keep (x11.bl))
  have gX1 := hide (fX1.out.keep (x11.bl))
  have gF0 := hide (fF0.out.keep (x11.bl))
  have gF1 := hide (fF1.out.keep (x11.bl))
  have gA := hide (fA.out.keep (x11.bl))
  have gB := hide (fB.out.keep (x11.bl))
  have gZ := hide (Below.trans fZ.out (Below.mono (x11.bl) (Below.size fZ.out)))
  have gS := hide (Nat.le_trans fS.out (Below.size (x11.bl)))
  clear fkw0 fkw1 fkg0 fkg1 fIW fIG fFG fX0 fX1 fF0 fF1 fA fB fZ fS
  clear x11
  have hsz : Hid (w.heap.size ≤ w2.heap.size ∧ w2.heap.size ≤ w3.heap.size ∧ W3.heap.size = w3.heap.size + 1 ∧ W3.heap.size < w4.heap.size ∧ w4.heap.size < w5.heap.size ∧ w5.heap.size ≤ w6.heap.size ∧ w6.heap.size + 1 ≤ w11.heap.size) := ⟨sz3.out.1, sz3.out.2.1, sz3.out.2.2, sz5.out.1, sz5.out.2, sz6.out.1, gS.out⟩
  clear sz3 sz5 sz6
  go_wp2_with fail
  refine (markB2 gX0.out gF0.out (by have := hsz.out; omega) 1 (by omega) (by omega)).mono ?_
  rintro e w12 ⟨rfl, hm12, m12⟩
  clear hm12
  have hkw0 := (m12).box _ _ _ (by have := hsz.out; omega) gkw0
  have hkw1 := (m12).box _ _ _ (by have := hsz.out; omega) gkw1
  have hkg0 := (m12).box _ _ _ (by have := hsz.out; omega) gkg0
  have hkg1 := (m12).box _ _ _ (by have := hsz.out; omega) gkg1
  have hIW := hide (gIW.out.mIn (m12) (by have := hsz.out; omega))
  have hIG := hide (gIG.out.mIn (m12) (by have := hsz.out; omega))
  have hX1 := hide (gX1.out.mIn (m12) (by have := hsz.out; omega))
  have hA := hide (gA.out.mIn (m12) (by have := hsz.out; omega))
  have hB := hide (gB.out.mIn (m12) (by have := hsz.out; omega))
  have hFG := hide (gFG.out.mIn (m12))
  have hF0 := hide (gF0.out.mIn (m12))
  have hF1 := hide (gF1.out.mIn (m12))
  have hZ := hide (Below.trans gZ.out (Below.mono m12.bl (by have := hsz.out; omega)))
  have hS := hide (Nat.le_trans gS.out (Below.size m12.bl))
  clear m12 gkw0 gkw1 gkg0 gkg1 gIW gIG gX0 gX1 gA gB gFG gF0 gF1 gZ gS
  go_wp2_with fail
  refine (markB2 hX1.out hF1.out (by have := hsz.out; have := hS.out; omega) (1 + xs.length) (by omega) (by omega)).mono ?_
  rintro e w13 ⟨rfl, hm13, m13⟩
  clear hm13 hX1 hF1 hF0
  have ikw0 := (m13).box _ _ _ (by have := hsz.out; omega) hkw0
  have ikw1 := (m13).box _ _ _ (by have := hsz.out; omega) hkw1
  have ikg0 := (m13).box _ _ _ (by have := hsz.out; omega) hkg0
  have ikg1 := (m13).box _ _ _ (by have := hsz.out; omega) hkg1
  have iIW := hide (hIW.out.mIn (m13) (by have := hsz.out; omega))
  have iIG := hide (hIG.out.mIn (m13) (by have := hsz.out; omega))
  have iA := hide (hA.out.mIn (m13) (by have := hsz.out; omega))
  have iB := hide (hB.out.mIn (m13) (by have := hsz.out; omega))
  have iFG := hide (hFG.out.mIn (m13))
  have iZ := hide (Below.trans hZ.out (Below.mono (m13).bl (by have := hsz.out; omega)))
  have iS := hide (Nat.le_trans hS.out (Below.size (m13).bl))
  clear hkw0 hkw1 hkg0 hkg1 hIW hIG hA hB hFG hZ hS
  clear m13
  have hk : ¬ (1 + (xs.length : Int) + (ys.length : Int)) < 0 := by omega
  go_wp2_with fail
  refine (eqSR_true iIG.out.ints iIW.out.ints (by omega)).mono ?_
  rintro e w14 ⟨rfl, x14⟩
  have jkw0 := Bel.box (x14.bl) ikw0
  have jkw1 := Bel.box (x14.bl) ikw1
  have jkg0 := Bel.box (x14.bl) ikg0
  have jkg1 := Bel.box (x14.bl) ikg1
  have jIW := hide (iIW.out.keep (x14.bl))
  have jIG := hide (iIG.out.keep (x14.bl))
  have jA := hide (iA.out.keep (x14.bl))
  have jB := hide (iB.out.keep (x14.bl))
  have jFG := hide (iFG.out.keep (x14.bl))
  have jZ := hide (Below.trans iZ.out (Below.mono (x14.bl) (Below.size iZ.out)))
  have jS := hide (Nat.le_trans iS.out (Below.size (x14.bl)))
  clear ikw0 ikw1 ikg0 ikg1 iIW iIG iA iB iFG iZ iS
  clear x14
  go_wp2_with fail
  refine (markSR2 jIG.out jFG.out (by have := hsz.out; have := jS.out; omega) (by have := hsz.out; have := jS.out; omega) (by omega)).mono ?_
  rintro e w15 ⟨rfl, hm15, m15⟩
  have HM := hide hm15
  clear hm15 jFG
  have kkw0 := (m15).box _ _ _ (by have := hsz.out; omega) jkw0
  have kkw1 := (m15).box _ _ _ (by have := hsz.out; omega) jkw1
  have kkg0 := (m15).box _ _ _ (by have := hsz.out; omega) jkg0
  have kkg1 := (m15).box _ _ _ (by have := hsz.out; omega) jkg1
  have kIW := hide (jIW.out.mIn (m15) (by have := hsz.out; omega))
  have kA := hide (jA.out.mIn (m15) (by have := hsz.out; omega))
  have kB := hide (jB.out.mIn (m15) (by have := hsz.out; omega))
  have kZ := hide (Below.trans jZ.out (Below.mono (m15).bl (by have := hsz.out; omega)))
  have kS := hide (Nat.le_trans jS.out (Below.size (m15).bl))
  clear jkw0 jkw1 jkg0 jkg1 jIW jA jB jIG jZ jS
  clear m15
  go_wp2_with fail
  refine (heldSR_any HM.out.ints (by omega)).mono ?_
  rintro e w16 ⟨rfl, x16⟩
  have lkw0 := Bel.box (x16.bl) kkw0
  have lkw1 := Bel.box (x16.bl) kkw1
  have lIW := hide (kIW.out.keep (x16.bl))
  have lA := hide (kA.out.keep (x16.bl))
  have lB := hide (kB.out.keep (x16.bl))
  have lZ := hide (Below.trans kZ.out (Below.mono (x16.bl) (Below.size kZ.out)))
  have lS := hide (Nat.le_trans kS.out (Below.size (x16.bl)))
  clear kkw0 kkw1 kIW kA kB kZ kS
  clear x16 HM kkg0 kkg1
  have hq : ¬ (1 + (L.length : Int)) < 0 := by omega
  go_wp2_with fail
  refine (toInts_any lA.out.ints lx).mono ?_
  rintro e w17 ⟨rfl, h17, x17, _⟩
  have mkw0 := Bel.box (x17.bl) lkw0
  have mkw1 := Bel.box (x17.bl) lkw1
  have mIW := hide (lIW.out.keep (x17.bl))
  have mA := hide (lA.out.keep (x17.bl))
  have mB := hide (lB.out.keep (x17.bl))
  have mZ := hide (Below.trans lZ.out (Below.mono (x17.bl) (Below.size lZ.out)))
  have mS := hide (Nat.le_trans lS.out (Below.size (x17.bl)))
  clear lkw0 lkw1 lIW lA lB lZ lS
  go_wp2_with fail
  refine (toInts_any mB.out.ints ly).mono ?_
  rintro e w18 ⟨rfl, h18, x18, _⟩
  have H17 := hide ((h17.ext x18).ints (n := xs.length) (cap := xs.length) rfl)
  have H18 := hide (h18.ints (n := ys.length) (cap := ys.length) rfl)
  clear h17 h18 x17
  have nkw0 := Bel.box (x18.bl) mkw0
  have nkw1 := Bel.box (x18.bl) mkw1
  have nIW := hide (mIW.out.keep (x18.bl))
  have nZ := hide (Below.trans mZ.out (Below.mono (x18.bl) (Below.size mZ.out)))
  have nS := hide (Nat.le_trans mS.out (Below.size (x18.bl)))
  clear mkw0 mkw1 mIW mZ mS
  clear x18 mA mB
  go_wp2_with fail
  refine (iBS_any H17.out H18.out lx ly).mono ?_
  rintro e w19 h19
  obtain ⟨sh, ch, rfl, oh, b19⟩ := bs2_of h19 HCL.out
  clear h19 H17 H18
  have y19 : Bel w19 (w19.alloc (.cells #[.int .i64 c, .slice sh L.length ch] 32)) := ((Ext.refl w19).alloc _ _).bl
  have n19 := fun j => new_cell w19 #[.int .i64 c, .slice sh L.length ch] 32 w19.heap.size rfl j
  have kh0 := n19 0
  have kh1 := n19 1
  have IH := hide ((ownB (cap := ch) oh).keep y19)
  have bb := Bel.tr b19 y19
  have okw0 := Bel.box (bb) nkw0
  have okw1 := Bel.box (bb) nkw1
  have oIW := hide (nIW.out.keep (bb))
  have oZ := hide (Below.trans nZ.out (Below.mono (bb) (Below.size nZ.out)))
  have oS := hide (Nat.le_trans nS.out (Below.size (bb)))
  clear nkw0 nkw1 nIW nZ nS
  clear n19 y19 oh b19 bb
  go_wp2_with fail
  refine (eqSR_true IH.out.ints oIW.out.ints (by omega)).mono ?_
  rintro e w20 ⟨rfl, x20⟩
  have ZZ := hide (Below.trans oZ.out (Below.mono x20.bl (Below.size oZ.out)))
  clear x20
  go_wp2
  go_ret
  exact ⟨rfl, ZZ.out⟩
end Go.Proofs.Ytiekkninnjffpaa
