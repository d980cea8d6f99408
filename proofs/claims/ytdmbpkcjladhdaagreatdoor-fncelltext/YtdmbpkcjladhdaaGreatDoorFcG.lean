import Derived.Test.YtdmbpkcjladhdaaGreatDoorFcF
namespace Go.Proofs.YtdmbpkcjladhdaaGreatDoor
open Go.RowKit FL Ieee
set_option linter.unusedSimpArgs false
set_option linter.unusedVariables false

theorem no_p (n : Int) : (112 : UInt8) ∉ Lib.itoa n := by
  intro h
  rcases itoa_bytes n 112 h with h1 | h1
  · have e : (112 : UInt8).toNat = 112 := rfl
    omega
  · cases h1
theorem no_comma (n : Int) : (44 : UInt8) ∉ Lib.itoa n := by
  intro h
  rcases itoa_bytes n 44 h with h1 | h1
  · have e : (44 : UInt8).toNat = 44 := rfl
    omega
  · cases h1

theorem below_cell {w w1 : World} (h : Below w.heap.size w w1) {m : Int} (hm : w.cell? ⟨2, 0, none⟩ = some (.int .i64 m)) : w1.cell? ⟨2, 0, none⟩ = some (.int .i64 m) := by
  have hb : 2 < w.heap.size := by
    by_cases e : 2 < w.heap.size
    · exact e
    · have e2 : w.heap[2]? = none := by simp; omega
      simp [World.cell?, e2] at hm
  rw [h.cell (p := ⟨2, 0, none⟩) hb, hm]

set_option maxHeartbeats 1000000 in
theorem pf_num (neg : Bool) (r : Nat) (h0 : 0 < r) (hr : r < double.infRung) (m : Int) (w : World) (hm : w.cell? ⟨2, 0, none⟩ = some (.int .i64 m)) :
    Calls Tryz.prog 35 #[str ((if neg then [45] else []) ++ posT r)] w fun e w' => e = .returned (.tuple #[.float .f64 (double.word neg r), .bool true]) ∧ Below w.heap.size w w' := by
  obtain ⟨hod, ho, hc, hk⟩ := big_odd r h0 hr
  have hk2 := k_le r h0 hr
  have hc0 : 0 < cOf (bigR double r) := by omega
  have hposT : (if neg then [45] else []) ++ posT r = Lib.itoa (if neg then -((cOf (bigR double r) : Nat) : Int) else ((cOf (bigR double r) : Nat) : Int)) ++ 112 :: Lib.itoa (((kOf (bigR double r) : Nat) : Int) - 1074) := by
    have : Lib.itoa (if neg then -((cOf (bigR double r) : Nat) : Int) else ((cOf (bigR double r) : Nat) : Int)) = (if neg then [45] else []) ++ Lib.itoa ((cOf (bigR double r) : Nat) : Int) := by
      cases neg
      · rfl
      · simp only [if_true]
        unfold Lib.itoa
        rw [if_pos (by omega), if_neg (by omega)]
        simp
    rw [this]
    unfold posT
    simp only [List.append_assoc, List.cons_append, List.nil_append]
  rw [hposT]
  obtain ⟨s, hs1, hs2⟩ := od_whole neg (cOf (bigR double r)) hc0 hc
  have sc := scaled_any neg (cOf (bigR double r)) (kOf (bigR double r)) s r hc hc0 hk2 hs2 hod
  have a0 : -9007199254740992 < (if neg then -((cOf (bigR double r) : Nat) : Int) else ((cOf (bigR double r) : Nat) : Int)) := by split <;> omega
  have a1 : (if neg then -((cOf (bigR double r) : Nat) : Int) else ((cOf (bigR double r) : Nat) : Int)) < 9007199254740992 := by split <;> omega
  have a2 : (if neg then -((cOf (bigR double r) : Nat) : Int) else ((cOf (bigR double r) : Nat) : Int)) ≠ 0 := by split <;> omega
  have b0 : -1074 ≤ ((kOf (bigR double r) : Nat) : Int) - 1074 := by omega
  have b1 : ((kOf (bigR double r) : Nat) : Int) - 1074 ≤ 1023 := by omega
  clear hposT hod ho hc hk hk2 hc0 hs2
  generalize (if neg then -((cOf (bigR double r) : Nat) : Int) else ((cOf (bigR double r) : Nat) : Int)) = a at *
  generalize ((kOf (bigR double r) : Nat) : Int) - 1074 = b at *
  generalize double.word neg r = x at *
  generalize double.word neg s = y at *
  have ia : I64 a := by unfold I64; omega
  have ib : I64 b := by unfold I64; omega
  have la := Lib.itoa_length_le a ia.1 ia.2
  have lb := Lib.itoa_length_le b ib.1 ib.2
  have nw := noWord_p (Lib.itoa a ++ 112 :: Lib.itoa b) (by simp)
  obtain ⟨p1, p2⟩ := eq_is _ [110, 97, 110] ⟨#[110, 97, 110]⟩ rfl false nw.e1
  obtain ⟨q1, q2⟩ := eq_is _ [105, 110, 102] ⟨#[105, 110, 102]⟩ rfl false nw.e2
  obtain ⟨r1, r2⟩ := eq_is _ [45, 105, 110, 102] ⟨#[45, 105, 110, 102]⟩ rfl false nw.e3
  obtain ⟨s1, s2⟩ := eq_is _ [48] ⟨#[48]⟩ rfl false nw.e4
  obtain ⟨t1, t2⟩ := eq_is _ [45, 48] ⟨#[45, 48]⟩ rfl false nw.e5
  have ct := cut_any (Lib.itoa a ++ 112 :: Lib.itoa b) (Lib.itoa a) (Lib.itoa b) 112 true ⟨#[112]⟩ rfl (cut_one _ _ _ (no_p a)) (by simp; omega) m w hm
  have pa := parseInt_any a ia
  have pb := parseInt_any b ib
  have e0 : (a == 0) = false := by rw [beq_eq_false_iff_ne]; exact a2
  have e1 : decide (a < -9007199254740992) = false := by simp; omega
  have e2 : decide (9007199254740992 < a) = false := by simp; omega
  have e3 : decide (b < -1100) = false := by simp; omega
  have e4 : decide (1100 < b) = false := by simp; omega
  clear nw la lb ia ib a0 a1 a2 b0 b1
  generalize str (Lib.itoa a ++ 112 :: Lib.itoa b) = U at *
  generalize str (Lib.itoa a) = UA at *
  generalize str (Lib.itoa b) = UB at *
  go_enter Tryz.func35, Tryz.ntmps35
  go_wp2_with (go_at_call 37; refine ct.mono ?_; rintro e w1 ⟨rfl, n, hw1⟩; have B1 : Below w.heap.size w w1 := (by rw [hw1]; exact below_drewN (Below.refl _ _) n); clear hw1; refine Hid.out ?_)
  refine hide ?_
  go_wp2_with (go_at_call 39; refine (pa _).mono ?_; rintro e w2 ⟨rfl, x2⟩; refine Hid.out ?_)
  refine hide ?_
  have B2 : Below w.heap.size w w2 := B1.trans (x2.mono B1.size)
  clear x2
  go_wp2_with (go_at_call 39; refine (pb _).mono ?_; rintro e w3 ⟨rfl, x3⟩; refine Hid.out ?_)
  refine hide ?_
  have B3 : Below w.heap.size w w3 := B2.trans (x3.mono B2.size)
  clear x3
  have Hs1 := hide hs1
  go_wp2_with (go_at_call 49; refine (sc _).mono ?_; rintro e w4 ⟨rfl, hw4⟩; obtain rfl := hw4.symm)
  go_ret2
  exact ⟨rfl, B3⟩

theorem parseFloat_any (x : Nat) (hx : B64 x) (m : Int) (w : World) (hm : w.cell? ⟨2, 0, none⟩ = some (.int .i64 m)) :
    Calls Tryz.prog 35 #[str (fltT x)] w fun e w' => e = .returned (.tuple #[.float .f64 (rdF x), .bool true]) ∧ Below w.heap.size w w' := by
  have sm : ∀ {L : List UInt8} {v : Value} {w : World}, Calls Tryz.prog 35 #[str L] w (fun e w' => e = .returned v ∧ w' = w) → Calls Tryz.prog 35 #[str L] w (fun e w' => e = .returned v ∧ Below w.heap.size w w') := fun c => c.mono fun e w' h => ⟨h.1, by rw [h.2]; exact Below.refl _ _⟩
  unfold rdF
  by_cases h0 : nanD x = true
  · rw [if_pos h0]
    have : fltT x = [110, 97, 110] := by unfold fltT; rw [if_pos h0]
    rw [this]
    exact sm (pf_nan w)
  · rw [if_neg h0]
    have hn : nanD x = false := by simpa using h0
    by_cases h1 : x = 0
    · have : fltT x = [48] := by unfold fltT; rw [if_neg h0, if_pos h1]
      rw [this, h1]; exact sm (pf_zero w)
    · by_cases h2 : x = 9223372036854775808
      · have : fltT x = [45, 48] := by unfold fltT; rw [if_neg h0, if_neg h1, if_pos h2]
        rw [this, h2]; exact sm (pf_nzero w)
      · by_cases h3 : x = 9218868437227405312
        · have : fltT x = [105, 110, 102] := by unfold fltT; rw [if_neg h0, if_neg h1, if_neg h2, if_pos h3]
          rw [this, h3]; exact sm (pf_inf w)
        · by_cases h4 : x = 18442240474082181120
          · have : fltT x = [45, 105, 110, 102] := by unfold fltT; rw [if_neg h0, if_neg h1, if_neg h2, if_neg h3, if_pos h4]
            rw [this, h4]; exact sm (pf_ninf w)
          · rcases fltT_word x hx with ⟨g1, g2⟩ | ⟨g1, neg, r, g3, g4, g5, g6⟩
            · exfalso
              apply g1
              unfold wordT
              rw [if_neg h0, if_neg h1, if_neg h2, if_neg h3, if_neg h4]
            · rw [g6, g5]
              exact pf_num neg r g3 g4 m w hm
end Go.Proofs.YtdmbpkcjladhdaaGreatDoor
