import Derived.Test.YthaajmkfeniofaaDrawC
import Derived.Test.YthaajmkfeniofaaUnary4
namespace Go.Proofs.Ythaajmkfeniofaa
open Go.RowKit FL
set_option linter.unusedSimpArgs false
set_option linter.unusedVariables false

theorem truth_any (t : Bool) (w : World) :
    Calls Try.prog 78 #[.bool t] w fun e w' => e = .returned (.agg #[.int .i64 (if t then 1 else 0), .float .f64 0, .float .f64 0]) ∧ Ext w w' := by
  go_enter Try.func78, Try.ntmps78
  cases t
  · go_wp2
    exact bodyPost_ret (v := .agg #[.int .i64 0, .float .f64 0, .float .f64 0]) (by simp [results, Try.results78, go_sem]) rfl ⟨rfl, by repeat (first | with_reducible exact Ext.refl _ | with_reducible refine Ext.setCell ?_ (by simp) _ | with_reducible apply Ext.drew | with_reducible apply Ext.alloc)⟩
  · go_wp2
    exact bodyPost_ret (v := .agg #[.int .i64 1, .float .f64 0, .float .f64 0]) (by simp [results, Try.results78, go_sem]) rfl ⟨rfl, by repeat (first | with_reducible exact Ext.refl _ | with_reducible refine Ext.setCell ?_ (by simp) _ | with_reducible apply Ext.drew | with_reducible apply Ext.alloc)⟩

theorem range_any (dt : Int) (h : 2 ≤ dt ∧ dt ≤ 6) (w : World) :
    Calls Try.prog 103 #[.int .i64 dt] w fun e w' => e = .returned (.tuple #[.int .i64 (lowL dt), .int .i64 (highL dt)]) ∧ Ext w w' := by
  obtain rfl | rfl | rfl | rfl | rfl : dt = 2 ∨ dt = 3 ∨ dt = 4 ∨ dt = 5 ∨ dt = 6 := by omega
  · go_enter Try.func103, Try.ntmps103
    go_wp2
    exact bodyPost_ret (v := .tuple #[.int .i64 (-128), .int .i64 127]) (by simp [results, Try.results103, go_sem]) rfl ⟨rfl, Ext.refl _⟩
  · go_enter Try.func103, Try.ntmps103
    go_wp2
    exact bodyPost_ret (v := .tuple #[.int .i64 (0), .int .i64 255]) (by simp [results, Try.results103, go_sem]) rfl ⟨rfl, Ext.refl _⟩
  · go_enter Try.func103, Try.ntmps103
    go_wp2
    exact bodyPost_ret (v := .tuple #[.int .i64 (-32768), .int .i64 32767]) (by simp [results, Try.results103, go_sem]) rfl ⟨rfl, Ext.refl _⟩
  · go_enter Try.func103, Try.ntmps103
    go_wp2
    exact bodyPost_ret (v := .tuple #[.int .i64 (-2147483648), .int .i64 2147483647]) (by simp [results, Try.results103, go_sem]) rfl ⟨rfl, Ext.refl _⟩
  · go_enter Try.func103, Try.ntmps103
    go_wp2
    exact bodyPost_ret (v := .tuple #[.int .i64 (-9223372036854775808), .int .i64 9223372036854775807]) (by simp [results, Try.results103, go_sem]) rfl ⟨rfl, Ext.refl _⟩
end Go.Proofs.Ythaajmkfeniofaa
