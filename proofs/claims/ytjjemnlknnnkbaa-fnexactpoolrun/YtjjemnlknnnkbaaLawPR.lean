import Derived.Test.YtjjemnlknnnkbaaPoolS
namespace Go.Proofs.Ytjjemnlknnnkbaa
open Go.ChangeShapes Go.RowKit Go.MuLone
set_option linter.unusedSimpArgs false
set_option linter.unusedVariables false

/-- Triples in a block from lo to hi. -/
def PVL (w : World) (lo hi : Nat) (v : Value) (ts : List P3) : Prop :=
  ∃ sa cap, v = .slice sa ts.length cap ∧ (ts = [] ∨ ∃ g off, sa = some ⟨g, off, none⟩ ∧ lo ≤ g ∧ g < hi ∧ g < w.heap.size ∧ PRow w g off ts)
/-- and the block is not frozen. -/
def PVB (w : World) (lo hi : Nat) (v : Value) (ts : List P3) : Prop :=
  ∃ sa cap, v = .slice sa ts.length cap ∧ (ts = [] ∨ ∃ g off, sa = some ⟨g, off, none⟩ ∧ lo ≤ g ∧ g < hi ∧ g < w.heap.size ∧ PRow w g off ts ∧ ∀ o, w.frozen? ⟨g, o, none⟩ = false)
theorem PVL.v {w : World} {lo hi : Nat} {v : Value} {ts : List P3} (h : PVL w lo hi v ts) : PV w v ts := by
  obtain ⟨sa, cap, rfl, h⟩ := h
  rcases h with h | ⟨g, off, h1, _, _, _, h2⟩
  · exact ⟨sa, cap, rfl, Or.inl h⟩
  · exact ⟨sa, cap, rfl, Or.inr ⟨g, off, h1, h2⟩⟩
theorem PVB.l {w : World} {lo hi : Nat} {v : Value} {ts : List P3} (h : PVB w lo hi v ts) : PVL w lo hi v ts := by
  obtain ⟨sa, cap, rfl, h⟩ := h
  rcases h with h | ⟨g, off, h1, h3, h4, h5, h2, _⟩
  · exact ⟨sa, cap, rfl, Or.inl h⟩
  · exact ⟨sa, cap, rfl, Or.inr ⟨g, off, h1, h3, h4, h5, h2⟩⟩
theorem PV.bound {w : World} {v : Value} {ts : List P3} (h : PV w v ts) : PVL w 0 w.heap.size v ts := by
  obtain ⟨sa, cap, rfl, h⟩ := h
  refine ⟨sa, cap, rfl, ?_⟩
  by_cases e : ts = []
  · exact Or.inl e
  · rcases h with h | ⟨b, off, h1, h2⟩
    · exact Or.inl h
    · have hl : 0 < ts.length := List.length_pos_iff.2 e
      have := cell_lt (h2 0 hl).1
      exact Or.inr ⟨b, off, h1, Nat.zero_le _, this, this, h2⟩
theorem PVL.keep {w w' : World} {lo hi : Nat} {v : Value} {ts : List P3} (h : PVL w lo hi v ts) (x : Bel w w') : PVL w' lo hi v ts := by
  obtain ⟨sa, cap, rfl, h⟩ := h
  rcases h with h | ⟨g, off, h1, h2, h3, h4, h5⟩
  · exact ⟨sa, cap, rfl, Or.inl h⟩
  · exact ⟨sa, cap, rfl, Or.inr ⟨g, off, h1, h2, h3, Nat.lt_of_lt_of_le h4 (Below.size x), h5.keep x⟩⟩
theorem PVB.keep {w w' : World} {lo hi : Nat} {v : Value} {ts : List P3} (h : PVB w lo hi v ts) (x : Bel w w') : PVB w' lo hi v ts := by
  obtain ⟨sa, cap, rfl, h⟩ := h
  rcases h with h | ⟨g, off, h1, h2, h3, h4, h5, h6⟩
  · exact ⟨sa, cap, rfl, Or.inl h⟩
  · exact ⟨sa, cap, rfl, Or.inr ⟨g, off, h1, h2, h3, Nat.lt_of_lt_of_le h4 (Below.size x), h5.keep x, fun o => (Below.frozen x (p := ⟨g, o, none⟩) h4).trans (h6 o)⟩⟩
theorem PVL.mIn {w w' : World} {lo hi l h : Nat} {v : Value} {ts : List P3} (a : PVL w l h v ts) (x : MIn lo hi w w') (hb : h ≤ lo ∨ hi ≤ l) : PVL w' l h v ts := by
  obtain ⟨sa, cap, rfl, a⟩ := a
  rcases a with a | ⟨g, off, h1, h2, h3, h4, h5⟩
  · exact ⟨sa, cap, rfl, Or.inl a⟩
  · exact ⟨sa, cap, rfl, Or.inr ⟨g, off, h1, h2, h3, Nat.lt_of_lt_of_le h4 (Below.size x.bl), fun j hj => ⟨x.box _ _ _ (by omega) (h5 j hj).1, x.box _ _ _ (by omega) (h5 j hj).2.1, x.box _ _ _ (by omega) (h5 j hj).2.2⟩⟩⟩
theorem PVB.mIn {w w' : World} {lo hi l h : Nat} {v : Value} {ts : List P3} (a : PVB w l h v ts) (x : MIn lo hi w w') (hb : h ≤ lo ∨ hi ≤ l) : PVB w' l h v ts := by
  obtain ⟨sa, cap, rfl, a⟩ := a
  rcases a with a | ⟨g, off, h1, h2, h3, h4, h5, h6⟩
  · exact ⟨sa, cap, rfl, Or.inl a⟩
  · exact ⟨sa, cap, rfl, Or.inr ⟨g, off, h1, h2, h3, Nat.lt_of_lt_of_le h4 (Below.size x.bl), fun j hj => ⟨x.box _ _ _ (by omega) (h5 j hj).1, x.box _ _ _ (by omega) (h5 j hj).2.1, x.box _ _ _ (by omega) (h5 j hj).2.2⟩, fun o => (x.fz _).trans (h6 o)⟩⟩
theorem pokB {w w' : World} {ts : List P3} {sa : Option Addr} {cap : Nat} (h : POwn w' w.heap.size w'.heap.size sa ts) : PVB w' w.heap.size w'.heap.size (.slice sa ts.length cap) ts := by
  rcases h with h | ⟨g, h1, h2, h3, h4, h5⟩
  · exact ⟨sa, cap, rfl, Or.inl h⟩
  · exact ⟨sa, cap, rfl, Or.inr ⟨g, 0, h1, h2, h3, h3, h4, h5⟩⟩
theorem prowB {w w' : World} {n : Nat} {ts : List P3} (h : PRow w' w.heap.size 0 ts) (hn : n = ts.length) (x : Ext w w') (hs : w.heap.size < w'.heap.size) : PVB w' w.heap.size (w.heap.size + 1) (.slice (some ⟨w.heap.size, 0, none⟩) n n) ts := ⟨_, _, by rw [hn], Or.inr ⟨w.heap.size, 0, rfl, Nat.le_refl _, Nat.lt_succ_self _, hs, h, fun o => x.unfrozen (Nat.le_refl _) o⟩⟩
theorem markO2 {w : World} {lo hi : Nat} {v : Value} {ts : List P3} (h : PVB w lo hi v ts) (hlo : lo ≤ w.heap.size) (k : Int) (hk : 0 ≤ k ∧ k ≤ 1000000) (hl : ts.length ≤ 1048576) :
    Calls Try.prog 24 #[v, .int .i64 k] w fun e w' => e = .returned (.int .i64 (k + 3 * ts.length)) ∧ PVB w' lo hi v (pcount ts.length k) ∧ MIn lo hi w w' := by
  obtain ⟨sa, cap, rfl, h⟩ := h
  rcases h with rfl | ⟨g, off, rfl, h1, h2, h3, h4, h5⟩
  · refine (markOps_nil k).mono ?_
    rintro e w' ⟨rfl, rfl⟩
    exact ⟨by simp, ⟨sa, cap, by rw [pcount_len], Or.inl rfl⟩, (Ext.refl _).mIn hlo⟩
  · refine (markOps_any h4 h5 k hk hl).mono ?_
    rintro e w' ⟨rfl, hr, hm⟩
    exact ⟨rfl, ⟨_, cap, by rw [pcount_len], Or.inr ⟨g, off, rfl, h1, h2, Nat.lt_of_lt_of_le h3 hm.size, hr, fun o => (hm.fz _).trans (h5 o)⟩⟩, hm.mIn h1 h2 hlo⟩
theorem markA2 {w : World} {lo hi : Nat} {v : Value} {ts : List P3} (h : PVB w lo hi v ts) (hlo : lo ≤ w.heap.size) (k : Int) (hk : 0 ≤ k ∧ k ≤ 1000000) (hl : ts.length ≤ 1048576) :
    Calls Try.prog 25 #[v, .int .i64 k] w fun e w' => e = .returned (.int .i64 (k + 3 * ts.length)) ∧ PVB w' lo hi v (pcount ts.length k) ∧ MIn lo hi w w' := by
  obtain ⟨sa, cap, rfl, h⟩ := h
  rcases h with rfl | ⟨g, off, rfl, h1, h2, h3, h4, h5⟩
  · refine (markAns_nil k).mono ?_
    rintro e w' ⟨rfl, rfl⟩
    exact ⟨by simp, ⟨sa, cap, by rw [pcount_len], Or.inl rfl⟩, (Ext.refl _).mIn hlo⟩
  · refine (markAns_any h4 h5 k hk hl).mono ?_
    rintro e w' ⟨rfl, hr, hm⟩
    exact ⟨rfl, ⟨_, cap, by rw [pcount_len], Or.inr ⟨g, off, rfl, h1, h2, Nat.lt_of_lt_of_le h3 hm.size, hr, fun o => (hm.fz _).trans (h5 o)⟩⟩, hm.mIn h1 h2 hlo⟩

set_option maxRecDepth 100000 in
set_option maxHeartbeats 1000000 in
theorem lawPR_long (w : World) (sa : Option Addr) (len cap : Nat) (budget : Int) (hlen : (1048576 : Int) < (len : Int)) (hmax : (len : Int) ≤ 9223372036854775807) :
    Calls Try.prog 6 #[.int .i64 budget, .slice sa len cap] w fun e w' => LawOk w e w' := by
  have hs := hide (szOps_any w sa len cap 1048576 (by omega) hmax)
  rw [if_pos (by omega)] at hs
  go_enter Try.func6, Try.ntmps6
  go_wp2_with fail
  refine hs.out.mono ?_
  rintro e w1 ⟨rfl, rfl⟩
  go_wp2
  go_ret
  exact ⟨rfl, Below.refl _ _⟩

set_option maxRecDepth 100000 in
set_option maxHeartbeats 8000000 in
theorem lawPR (w : World) (v : Value) (budget : Int) (xs : List P3) (hX : PV w v xs) (lx : xs.length ≤ 1048576) :
    Calls Try.prog 6 #[.int .i64 budget, v] w fun e w' => LawOk w e w' := by
  have hL : (poolL budget xs).length ≤ 1048576 := by have := poolL_len budget xs; omega
  have hsp := hide (fun (W : World) (v : Value) (h1 : PV W v xs) => sPR_any h1 budget lx)
  have him := hide (fun (W : World) (v : Value) (h1 : PV W v xs) => iPR_any h1 budget lx)
  generalize poolL budget xs = T at hL hsp him
  have A0 := hide hX.bound
  obtain ⟨sa, cap, rfl, _⟩ := hX
  have hs := hide (szOps_any w sa xs.length cap 1048576 (by omega) (by omega))
  rw [if_neg (by omega)] at hs
  have nx : ¬ (1048576 - (xs.length : Int)) < 0 := by omega
  go_enter Try.func6, Try.ntmps6
  go_wp2_with fail
  refine hs.out.mono ?_
  rintro e w0 ⟨rfl, rfl⟩
  clear hs
  go_wp2_with fail
  refine (toOps_any A0.out.v lx).mono ?_
  rintro e w1 ⟨rfl, rp, x1, s1⟩
  have A1 := hide (A0.out.keep x1.bl)
  have Z1 : Hid (Bel w0 w1) := x1.bl
  have P1 := hide (prowB (n := xs.length) rp rfl x1 s1)
  clear rp x1 s1 A0
  go_wp2_with fail
  refine (hsp.out _ _ P1.out.l.v).mono ?_
  rintro e w2 ⟨sw, cw, rfl, iW, x2⟩
  have A2 := hide (A1.out.keep x2)
  have Z2 := hide (Bel.tr Z1.out x2)
  have W2' := hide (pokB (cap := cw) iW)
  clear iW x2 A1 Z1 P1 hsp
  go_wp2_with fail
  refine (toOps_any A2.out.v lx).mono ?_
  rintro e w3 ⟨rfl, rp, x3, s3⟩
  have A3 := hide (A2.out.keep x3.bl)
  have Z3 := hide (Bel.tr Z2.out x3.bl)
  have W3' := hide (W2'.out.keep x3.bl)
  have P3' := hide (prowB (n := xs.length) rp rfl x3 s3)
  have SZ : Hid (w0.heap.size ≤ w2.heap.size ∧ w2.heap.size < w3.heap.size) := ⟨Below.size Z2.out, s3⟩
  clear rp x3 s3 A2 Z2 W2'
  go_wp2_with fail
  refine (him.out _ _ P3'.out.l.v).mono ?_
  rintro e w4 ⟨sg, cg, rfl, iG, x4⟩
  have A4 := hide (A3.out.keep x4)
  have Z4 := hide (Bel.tr Z3.out x4)
  have W4' := hide (W3'.out.keep x4)
  have P4 := hide (P3'.out.keep x4)
  have G4 := hide (pokB (cap := cg) iG)
  have T4 : Hid (w3.heap.size ≤ w4.heap.size) := Below.size x4
  clear iG x4 A3 Z3 W3' P3'
  go_wp2_with fail
  refine (eqAnsS_true G4.out.l.v W4'.out.l.v hL).mono ?_
  rintro e w5 ⟨rfl, x5⟩
  have A5 := hide (A4.out.keep x5.bl)
  have Z5 := hide (Bel.tr Z4.out x5.bl)
  have W5' := hide (W4'.out.keep x5.bl)
  have P5 := hide (P4.out.keep x5.bl)
  have G5 := hide (G4.out.keep x5.bl)
  have T5 := hide (Nat.le_trans T4.out (Below.size x5.bl))
  clear x5 A4 Z4 W4' P4 G4 T4
  go_wp2_with fail
  refine (toOps_any A5.out.v lx).mono ?_
  rintro e w6 ⟨rfl, rp, x6, s6⟩
  have A6 := hide (A5.out.keep x6.bl)
  have Z6 := hide (Bel.tr Z5.out x6.bl)
  have W6' := hide (W5'.out.keep x6.bl)
  have P6 := hide (P5.out.keep x6.bl)
  have G6 := hide (G5.out.keep x6.bl)
  have T6 := hide (Nat.le_trans T5.out (Below.size x6.bl))
  have H6 := hide (prowB (n := xs.length) rp rfl x6 s6)
  clear rp x6 s6 A5 Z5 W5' P5 G5 T5
  go_wp2_with fail
  refine (eqOpS_true P6.out.l.v H6.out.l.v lx).mono ?_
  rintro e w7 ⟨rfl, x7⟩
  have A7 := hide (A6.out.keep x7.bl)
  have Z7 := hide (Bel.tr Z6.out x7.bl)
  have W7' := hide (W6'.out.keep x7.bl)
  have P7 := hide (P6.out.keep x7.bl)
  have G7 := hide (G6.out.keep x7.bl)
  have T7 := hide (Nat.le_trans T6.out (Below.size x7.bl))
  clear x7 A6 Z6 W6' P6 G6 T6 H6
  go_wp2_with fail
  refine (markO2 P7.out (by have := SZ.out; have := T7.out; omega) 1 (by omega) lx).mono ?_
  rintro e w8 ⟨rfl, _, m8⟩
  have A8 := hide (A7.out.mIn m8 (by have := SZ.out; omega))
  have Z8 : Hid (Bel w0 w8) := Below.trans Z7.out (Below.mono m8.bl (by have := SZ.out; omega))
  have W8' := hide (W7'.out.mIn m8 (by have := SZ.out; omega))
  have G8 := hide (G7.out.mIn m8 (by have := SZ.out; omega))
  have T8 := hide (Nat.le_trans T7.out (Below.size m8.bl))
  clear m8 A7 Z7 W7' P7 G7 T7
  have hk : ¬ (1 + 3 * (xs.length : Int)) < 0 := by omega
  go_wp2_with fail
  refine (eqAnsS_true G8.out.l.v W8'.out.l.v hL).mono ?_
  rintro e w9 ⟨rfl, x9⟩
  have A9 := hide (A8.out.keep x9.bl)
  have Z9 := hide (Bel.tr Z8.out x9.bl)
  have W9' := hide (W8'.out.keep x9.bl)
  have G9 := hide (G8.out.keep x9.bl)
  have T9 := hide (Nat.le_trans T8.out (Below.size x9.bl))
  clear x9 A8 Z8 W8' G8 T8
  go_wp2_with fail
  refine (markA2 G9.out (by have := T9.out; omega) 1 (by omega) hL).mono ?_
  rintro e w10 ⟨rfl, i10, m10⟩
  have A10 := hide (A9.out.mIn m10 (by have := SZ.out; omega))
  have Z10 : Hid (Bel w0 w10) := Below.trans Z9.out (Below.mono m10.bl (by have := SZ.out; omega))
  have W10' := hide (W9'.out.mIn m10 (by have := SZ.out; omega))
  have I10 := hide i10
  clear i10 m10 A9 Z9 W9' G9 T9
  go_wp2_with fail
  refine (heldAns_any 1 I10.out.l.v (by omega) hL).mono ?_
  rintro e w11 ⟨rfl, x11⟩
  have A11 := hide (A10.out.keep x11.bl)
  have Z11 := hide (Bel.tr Z10.out x11.bl)
  have W11' := hide (W10'.out.keep x11.bl)
  clear x11 A10 Z10 W10' I10
  have hq : ¬ (1 + 3 * (T.length : Int)) < 0 := by omega
  go_wp2_with fail
  refine (toOps_any A11.out.v lx).mono ?_
  rintro e w12 ⟨rfl, rp, x12, s12⟩
  have Z12 := hide (Bel.tr Z11.out x12.bl)
  have W12' := hide (W11'.out.keep x12.bl)
  have P12 := hide (prowB (n := xs.length) rp rfl x12 s12)
  clear rp x12 s12 A11 Z11 W11'
  go_wp2_with fail
  refine (him.out _ _ P12.out.l.v).mono ?_
  rintro e w13 ⟨sh, ch, rfl, iH, x13⟩
  have Z13 := hide (Bel.tr Z12.out x13)
  have W13' := hide (W12'.out.keep x13)
  have H13 := hide (pokB (cap := ch) iH)
  clear iH x13 Z12 W12' P12
  go_wp2_with fail
  refine (eqAnsS_true H13.out.l.v W13'.out.l.v hL).mono ?_
  rintro e w14 ⟨rfl, x14⟩
  have Z14 := hide (Bel.tr Z13.out x14.bl)
  clear x14 Z13 W13' H13
  go_wp2
  go_ret
  exact ⟨rfl, Z14.out⟩
end Go.Proofs.Ytjjemnlknnnkbaa
