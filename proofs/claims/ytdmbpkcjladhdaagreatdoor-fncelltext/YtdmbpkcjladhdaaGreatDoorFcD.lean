import Derived.Test.YtdmbpkcjladhdaaGreatDoorFcA
import Derived.Test.YtdmbpkcjladhdaaGreatDoorFcC
import Derived.Test.YtdmbpkcjladhdaaGreatDoorFmF
import Derived.Test.YtdmbpkcjladhdaaGreatDoorShelf
namespace Go.Proofs.YtdmbpkcjladhdaaGreatDoor
open Go.RowKit FL Ieee
set_option linter.unusedSimpArgs false
set_option linter.unusedVariables false

set_option maxHeartbeats 1000000 in
/-- A whole number times a power of two, step by step. -/
theorem scaled_any (neg : Bool) (c K s rf : Nat) (hc : c < 9007199254740992) (h0 : 0 < c) (hK : K ≤ 2097) (hs : OD c 1074 s) (hf : OD c K rf) (w : World) :
    Calls Tryz.prog 49 #[.float .f64 (double.word neg s), .int .i64 ((K : Int) - 1074)] w fun e w' => e = .returned (.float .f64 (double.word neg rf)) ∧ w' = w := by
  have HS := hide hs
  have HF := hide hf
  clear hs hf
  have wn : IntKind.i64.wrap (-((K : Int) - 1074)) = 1074 - (K : Int) := by rw [IntKind.wrap_i64]; omega
  go_enter Tryz.func49, Tryz.ntmps49
  go_wp2
  go_loopw [0, 6] (fun x i wr => ∃ j z : Nat, i = .int .i64 (j : Int) ∧ x = .float .f64 (double.word neg z) ∧ (j : Int) ≤ max ((K : Int) - 1074) 0 ∧ Hid (OD c (1074 + j) z) ∧ wr = w) (fun x i _ => ((K : Int) - 1074 - intOf i).toNat)
  case atStart => exact ⟨0, s, rfl, rfl, by omega, HS, rfl⟩
  case round =>
    obtain ⟨j, z, rfl, rfl, hj, hz, hw⟩ := hrel
    obtain rfl := hw.symm
    by_cases hlt : (j : Int) < (K : Int) - 1074
    · obtain ⟨z', hm, hz'⟩ := od_double neg hz.out HF.out (by omega)
      have q := fun W => run_float_arith (P := Tryz.prog) W .mul 23 .f64 (double.word neg z) 4611686018427387904 (double.word neg z') hm
      have wa : IntKind.i64.wrap ((j : Int) + 1) = ((j + 1 : Nat) : Int) := by rw [IntKind.wrap_i64]; omega
      have HZ := hide hz'
      clear hm hz'
      go_wp2
      go_roundw
      case rel => exact ⟨j + 1, z', by congr 1, rfl, by omega, HZ, trivial⟩
      case measure => simp [intOf]; omega
    · have hlt' : decide ((j : Int) < (K : Int) - 1074) = false := by simp; omega
      have hz2 : Hid (OD c (max 1074 K) z) := hide (by
        have e : 1074 + j = max 1074 K := by omega
        rw [← e]; exact hz.out)
      clear hz hlt
      go_wp2
      go_loopw [0, 13] (fun x i wr => ∃ j z : Nat, i = .int .i64 (j : Int) ∧ x = .float .f64 (double.word neg z) ∧ (j : Int) ≤ max (1074 - (K : Int)) 0 ∧ Hid (OD c (max 1074 K - j) z) ∧ wr = w) (fun x i _ => (1074 - (K : Int) - intOf i).toNat)
      case atStart => exact ⟨0, z, rfl, rfl, by omega, hz2, rfl⟩
      case round =>
        obtain ⟨j2, z2, rfl, rfl, hj2, hz3, hw⟩ := hrel
        obtain rfl := hw.symm
        by_cases hlt2 : (j2 : Int) < 1074 - (K : Int)
        · obtain ⟨i, hi⟩ : ∃ i, max 1074 K - j2 = i + 1 := ⟨max 1074 K - j2 - 1, by omega⟩
          have hz4 := hz3.out
          rw [hi] at hz4
          obtain ⟨z', hm, hz'⟩ := od_halve neg hz4 h0 hc (by omega)
          have q := fun W => run_float_arith (P := Tryz.prog) W .quo 23 .f64 (double.word neg z2) 4611686018427387904 (double.word neg z') hm
          have wa : IntKind.i64.wrap ((j2 : Int) + 1) = ((j2 + 1 : Nat) : Int) := by rw [IntKind.wrap_i64]; omega
          have HZ : Hid (OD c (max 1074 K - (j2 + 1)) z') := hide (by
            have e : max 1074 K - (j2 + 1) = i := by omega
            rw [e]; exact hz')
          clear hm hz' hz4 hi
          go_wp2
          go_roundw
          case rel => exact ⟨j2 + 1, z', by congr 1, rfl, by omega, HZ, trivial⟩
          case measure => simp [intOf]; omega
        · have hlt3 : decide ((j2 : Int) < 1074 - (K : Int)) = false := by simp; omega
          have hzf : z2 = rf := by
            have e : max 1074 K - j2 = K := by omega
            have := hz3.out
            rw [e] at this
            exact od_same this HF.out
          clear hz3
          subst hzf
          go_wp2
          go_ret
          exact ⟨rfl, rfl⟩

theorem frombits_lit (z : Int) (x : Nat) (h : z = (x : Int)) (hx : B64 x) (w : World) : (callFunc 63 #[.int .u64 z]).run Tryz.prog w = .ok (.value (.float .f64 x)) w := by
  rw [h]; exact run_frombits x hx w
theorem float64bits_lit (z : Int) (x : Nat) (h : z = (x : Int)) (w : World) : (callFunc 58 #[.float .f64 x]).run Tryz.prog w = .ok (.value (.int .u64 z)) w := by
  rw [h]; exact run_float64bits x w
theorem nan_any (w : World) : Calls Tryz.prog 46 #[] w fun e w' => e = .returned (.float .f64 9221120237041090561) ∧ w' = w := by
  have d := frombits_lit 9221120237041090561 9221120237041090561 (by omega) (by unfold B64; omega)
  go_enter Tryz.func46, Tryz.ntmps46
  go_wp2
  go_ret
  exact ⟨rfl, rfl⟩
theorem inf_pos (w : World) : Calls Tryz.prog 47 #[.int .i64 1] w fun e w' => e = .returned (.float .f64 9218868437227405312) ∧ w' = w := by
  have d := frombits_lit 9218868437227405312 9218868437227405312 (by omega) (by unfold B64; omega)
  go_enter Tryz.func47, Tryz.ntmps47
  go_wp2
  go_ret
  exact ⟨rfl, rfl⟩
theorem inf_neg (w : World) : Calls Tryz.prog 47 #[.int .i64 (-1)] w fun e w' => e = .returned (.float .f64 18442240474082181120) ∧ w' = w := by
  have d := frombits_lit 18442240474082181120 18442240474082181120 (by omega) (by unfold B64; omega)
  go_enter Tryz.func47, Tryz.ntmps47
  go_wp2
  go_ret
  exact ⟨rfl, rfl⟩
theorem minus_zero (w : World) : Calls Tryz.prog 48 #[.float .f64 0, .float .f64 13830554455654793216] w fun e w' => e = .returned (.float .f64 9223372036854775808) ∧ w' = w := by
  have b1 := float64bits_lit 0 0 (by omega)
  have b2 := float64bits_lit 13830554455654793216 13830554455654793216 (by omega)
  have d := frombits_lit 9223372036854775808 9223372036854775808 (by omega) (by unfold B64; omega)
  have e1 : bits .andNot .u64 0 9223372036854775808 = 0 := by decide
  have e2 : bits .and .u64 13830554455654793216 9223372036854775808 = 9223372036854775808 := by decide
  have e3 : bits .or .u64 0 9223372036854775808 = 9223372036854775808 := by decide
  go_enter Tryz.func48, Tryz.ntmps48
  go_wp2
  go_ret
  exact ⟨rfl, rfl⟩
end Go.Proofs.YtdmbpkcjladhdaaGreatDoor
