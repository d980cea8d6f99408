import Derived.Test.YthimfolcnphfoaaDoorFmB
import Derived.Test.YthimfolcnphfoaaDoorFmC
import Derived.Deep.DeepCutAuto
namespace Go.Proofs.YthimfolcnphfoaaDoor
open Go.RowKit FL Ieee
set_option linter.unusedSimpArgs false
set_option linter.unusedVariables false

theorem run_trunc (w : World) (x : Nat) (n : Int) (h : (double.read x).toInt .zero = some n) (h1 : -9223372036854775808 ≤ n) (h2 : n ≤ 9223372036854775807) :
    (convert 22 2 (.float .f64 x)).run Tryd.prog w = .ok (.int .i64 n) w := by
  have hd : (FloatKind.f64.decode x).toInt .zero = some n := h
  have hm : IntKind.i64.min ≤ n ∧ n ≤ IntKind.i64.max := ⟨h1, h2⟩
  simp [convert, run_underlying Tryd.underlying22, run_underlying Tryd.underlying2, Conv.floatToInt, hd, hm]
  intro h3; exfalso; omega

/-- The text of a positive number. -/
def posT (r : Nat) : List UInt8 := Lib.itoa ((cOf (bigR double r) : Nat) : Int) ++ [112] ++ Lib.itoa (((kOf (bigR double r) : Nat) : Int) - 1074)

theorem t53 (r : Nat) (h : r < double.infRung) : (flt 4845873199050653696 r || feq r 4845873199050653696) = decide (4845873199050653696 ≤ r) := by
  rw [dI] at h
  rw [fltP _ _ (by omega) (by omega), feqP _ _ (by omega) (by omega), Bool.eq_iff_iff]
  simp; omega

set_option maxRecDepth 100000 in
set_option maxHeartbeats 1000000 in
theorem l6Float_pos (r : Nat) (h0 : 0 < r) (hr : r < double.infRung) (w : World) :
    Calls Tryd.prog 13 #[.float .f64 r] w fun e w' => e = .returned (str (posT r)) ∧ Ext w w' := by
  obtain ⟨hod, ho, hc, hk⟩ := big_odd r h0 hr
  obtain ⟨y, hy1, hy2, hy3, hy4⟩ := twice_ne r h0 hr
  have hI := hr
  rw [dI] at hI
  have hn : nanD r = false := by cases e : nanD r; rfl; have := (nanD_iff r).1 e; omega
  have f1 : feq r 0 = false := by rw [feqP r 0 hI (by omega)]; simp; omega
  have f2 : flt r 0 = false := by rw [fltP r 0 (by omega) (by omega)]; simp
  have f3 : feq r y = false := by
    unfold feq
    have n2 : nanD y = false := by cases e : nanD y; rfl; have := (nanD_iff y).1 e; rw [dI] at hy3; omega
    rw [hn, n2, keyD_eq r (by omega), keyD_eq y (by omega), if_pos (by omega), if_pos (by omega)]
    simp; omega
  have q1 := fun W => run_float_arith (P := Tryd.prog) W .mul 22 .f64 r 4611686018427387904 y hy1
  unfold posT
  generalize cOf (bigR double r) = c at *
  generalize kOf (bigR double r) = k at *
  have HOD := hide hod
  clear hod hy1 hy2 hy3 hy4
  have l1 := Lib.itoa_length_le (c : Int) (by omega) (by omega)
  have l2 := Lib.itoa_length_le ((k : Int) - 1074) (by omega) (by omega)
  have cc := l6Dec_any (c : Int) (by unfold I64; omega)
  have ck := l6Dec_any ((k : Int) - 1074) (by unfold I64; omega)
  have k1 : ∀ W, (binOp .add 9 (str (Lib.itoa (c : Int))) (.string { data := #[112] })).run Tryd.prog W = .ok (str (Lib.itoa (c : Int) ++ [112])) W := cat_any (Lib.itoa (c : Int)) [112] (by simp; omega)
  have k2 := cat_any (Lib.itoa (c : Int) ++ [112]) (Lib.itoa ((k : Int) - 1074)) (by simp; omega)
  generalize Lib.itoa (c : Int) ++ [112] ++ Lib.itoa ((k : Int) - 1074) = M at *
  generalize Lib.itoa (c : Int) ++ [112] = L1 at *
  generalize Lib.itoa (c : Int) = L0 at *
  generalize Lib.itoa ((k : Int) - 1074) = L2 at *
  clear l1 l2
  go_enter Tryd.func13, Tryd.ntmps13
  go_wp2_with (go_at_call 21; refine (l1IsNaN_any r _).mono ?_; rintro e w1 ⟨rfl, hw⟩; obtain rfl := hw.symm)
  go_loopw [0, 3] (fun x e wr => ∃ s j : Nat, x = .float .f64 s ∧ e = .int .i64 ((k : Int) - (j : Int)) ∧ j ≤ k ∧ Hid (OD c j s) ∧ wr = w) (fun x e _ => ((k : Int) - intOf e).toNat)
  case atStart => exact ⟨r, k, rfl, by simp, Nat.le_refl _, HOD, rfl⟩
  case round =>
    obtain ⟨s, j, rfl, rfl, hj, hs, hw⟩ := hrel
    obtain rfl := hw.symm
    have t := t53 s hs.out.2.1
    by_cases hb : 4845873199050653696 ≤ s
    · obtain ⟨i, s', hi, hd, hs'⟩ := od_half hs.out hc hb
      rw [decide_eq_true hb] at t
      have q2 := fun W => run_float_arith (P := Tryd.prog) W .quo 22 .f64 s 4611686018427387904 s' hd
      have wr1 : IntKind.i64.wrap ((k : Int) - (j : Int) + 1) = (k : Int) - (i : Int) := by rw [IntKind.wrap_i64]; omega
      have wr2 : wrap64 ((k : Int) - (j : Int) + 1) = (k : Int) - (i : Int) := by unfold wrap64; omega
      have HS' := hide hs'
      have Hi := hide hi
      clear hd hs' hi hb
      go_wp2
      go_roundw
      case rel => exact ⟨s', i, rfl, rfl, by have := Hi.out; omega, HS', trivial⟩
      case measure => have := Hi.out; simp [intOf]; omega
    · rw [decide_eq_false hb] at t
      have hlt : s < 4845873199050653696 := by omega
      go_wp2
      go_loopw [0, 3] (fun x e wr => ∃ s j : Nat, x = .float .f64 s ∧ e = .int .i64 ((k : Int) - (j : Int)) ∧ j ≤ 3000 ∧ s < 4845873199050653696 ∧ Hid (OD c j s) ∧ wr = w) (fun x e _ => (1074 - ((k : Int) - intOf e)).toNat)
      case atStart => exact ⟨s, j, rfl, rfl, by omega, hlt, hs, rfl⟩
      case round =>
        clear hs hlt t
        obtain ⟨s2, j2, rfl, rfl, hj2, hlt, hs, hw⟩ := hrel
        obtain rfl := hw.symm
        obtain ⟨q, hq1, hq2, hq3⟩ := od_less hs.out ho hc hlt
        have tr := fun W => run_trunc W s2 q hq1 (by omega) (by omega)
        clear hq1
        rcases hq3 with ⟨h1, h2, h3⟩ | ⟨h1, h3, s', h4, h5, h6⟩
        · have H2 := hide h2
          clear h2
          go_wp2
          go_loopw [3, 4] (fun e m wr => ∃ i z : Nat, m = .int .i64 (z : Int) ∧ e = .int .i64 ((k : Int) - 1074 - (i : Int)) ∧ i ≤ 2000 ∧ z < 9007199254740992 ∧ Hid (z = c * 2 ^ i) ∧ wr = w) (fun e m _ => ((k : Int) - 1074 - intOf e).toNat)
          case atStart => exact ⟨j2 - 1074, q, rfl, by congr 1; omega, by omega, hq2, H2, rfl⟩
          case round =>
            clear h3 tr H2 hs hlt hq2
            obtain ⟨i, z, rfl, rfl, hi, hz, Hz, hw⟩ := hrel
            obtain rfl := hw.symm
            have em : (z : Int).tmod 2 = (z : Int) % 2 := Int.tmod_eq_emod_of_nonneg (by omega)
            have ed : (z : Int).tdiv 2 = (z : Int) / 2 := Int.tdiv_eq_ediv_of_nonneg (by omega)
            cases i with
            | zero =>
              have hzc : z = c := by have := Hz.out; rw [Nat.pow_zero, Nat.mul_one] at this; exact this
              clear Hz
              subst hzc
              have b : ((z : Int).tmod 2 == 0) = false := by rw [em]; simp; omega
              clear em ed
              go_wp2_with (go_at_call 12; refine (cc _).mono ?_; rintro e w1 ⟨rfl, x1⟩; refine Hid.out ?_)
              refine hide ?_
              go_wp2_with (go_at_call 12; refine (ck _).mono ?_; rintro e w2 ⟨rfl, x2⟩)
              go_ret
              exact ⟨rfl, x1.trans x2⟩
            | succ i =>
              obtain ⟨z', hz'⟩ : ∃ z', z = 2 * z' := ⟨c * 2 ^ i, by have := Hz.out; rw [this, Nat.pow_succ, ← Nat.mul_assoc, Nat.mul_comm]⟩
              have Hz' : Hid (z' = c * 2 ^ i) := hide (by have := Hz.out; rw [hz', Nat.pow_succ, ← Nat.mul_assoc] at this; omega)
              have b3 : (z : Int) % 2 = 0 := by omega
              have b4 : (z : Int).tmod 2 = 0 := by omega
              have wr0 : IntKind.i64.wrap ((z : Int).tdiv 2) = (z' : Int) := by rw [ed, IntKind.wrap_i64]; omega
              have wr1 : IntKind.i64.wrap ((k : Int) - 1074 - ((i + 1 : Nat) : Int) + 1) = (k : Int) - 1074 - (i : Int) := by rw [IntKind.wrap_i64]; omega
              have wr2 : wrap64 ((k : Int) - 1074 - ((i + 1 : Nat) : Int) + 1) = (k : Int) - 1074 - (i : Int) := by unfold wrap64; omega
              have hzz : z' < 9007199254740992 := by omega
              have Hzz := hide hz'
              clear em ed Hz hz'
              go_wp2
              go_roundw
              case rel => exact ⟨i, z', by have := Hzz.out; congr 1; omega, by congr 1; omega, by omega, hzz, Hz', trivial⟩
              case measure => simp [intOf]; omega
        · have q2 := fun W => run_float_arith (P := Tryd.prog) W .mul 22 .f64 s2 4611686018427387904 s' h4
          have wr1 : IntKind.i64.wrap ((k : Int) - (j2 : Int) - 1) = (k : Int) - ((j2 + 1 : Nat) : Int) := by rw [IntKind.wrap_i64]; omega
          have wr2 : wrap64 ((k : Int) - (j2 : Int) - 1) = (k : Int) - ((j2 + 1 : Nat) : Int) := by unfold wrap64; omega
          have H5 := hide h5
          clear h4 h5
          go_wp2
          go_roundw
          case rel => exact ⟨s', j2 + 1, rfl, rfl, by omega, h6, H5, trivial⟩
          case measure => simp [intOf]; omega
end Go.Proofs.YthimfolcnphfoaaDoor
