import Derived.Test.YtbkdfhlbjaiahaaViewsL
namespace Go.Proofs.Ytbkdfhlbjaiahaa
open Go.ChangeShapes Go.RowKit
set_option linter.unusedSimpArgs false
set_option linter.unusedVariables false

/-- What szView leaves. -/
def szL (n m : Nat) : Int := if (1048576 : Int) - n < 0 then -1 else if (1048576 : Int) - n - m < 0 then -1 else (1048576 : Int) - n - m

set_option maxRecDepth 100000 in
set_option maxHeartbeats 2000000 in
theorem szView_any (sa sb : Option Addr) (n ca m cb : Nat) (off : Int) (hn : n ≤ 9223372036854775807) (hm : m ≤ 9223372036854775807) (w : World) :
    Calls Try.prog 29 #[.agg #[.slice sa n ca, .slice sb m cb, .int .i64 off], .int .i64 1048576] w fun e w' => e = .returned (.int .i64 (szL n m)) ∧ Ext w w' := by
  have x0 : Ext w (w.alloc (.cells #[.slice sa n ca, .slice sb m cb, .int .i64 off] 35)) := (Ext.refl w).alloc _ _
  have X0 := hide x0
  clear x0
  by_cases h : (1048576 : Int) - (n : Int) < 0
  · have hs : Hid (szL n m = -1) := if_pos h
    go_enter Try.func29, Try.ntmps29
    go_wp2_with fail
    refine (szInts_any sa n ca 1048576 hn (by omega) _).mono ?_
    rintro e w1 ⟨rfl, rfl⟩
    rw [if_pos h]
    go_wp2
    go_ret
    exact ⟨ret_int hs.out.symm, X0.out⟩
  · have hb : 0 ≤ (1048576 : Int) - n ∧ (1048576 : Int) - n ≤ 1048576 := by omega
    by_cases h2 : (1048576 : Int) - (n : Int) - (m : Int) < 0
    · have hs : Hid (szL n m = -1) := by show szL n m = -1; unfold szL; rw [if_neg h, if_pos h2]
      go_enter Try.func29, Try.ntmps29
      go_wp2_with fail
      refine (szInts_any sa n ca 1048576 hn (by omega) _).mono ?_
      rintro e w1 ⟨rfl, rfl⟩
      rw [if_neg (by omega)]
      go_wp2_with fail
      refine (szInts_any sb m cb _ hm hb _).mono ?_
      rintro e w1 ⟨rfl, rfl⟩
      rw [if_pos h2]
      go_wp2
      go_ret
      exact ⟨ret_int hs.out.symm, X0.out⟩
    · have hs : Hid (szL n m = (1048576 : Int) - n - m) := by show szL n m = (1048576 : Int) - n - m; unfold szL; rw [if_neg h, if_neg h2]
      go_enter Try.func29, Try.ntmps29
      go_wp2_with fail
      refine (szInts_any sa n ca 1048576 hn (by omega) _).mono ?_
      rintro e w1 ⟨rfl, rfl⟩
      rw [if_neg (by omega)]
      go_wp2_with fail
      refine (szInts_any sb m cb _ hm hb _).mono ?_
      rintro e w1 ⟨rfl, rfl⟩
      rw [if_neg (by omega)]
      go_wp2
      go_ret
      exact ⟨ret_int hs.out.symm, X0.out⟩
end Go.Proofs.Ytbkdfhlbjaiahaa
