import Derived.Test.YthaajmkfeniofaaConv2
namespace Go.Proofs.Ythaajmkfeniofaa
open Go.RowKit FL Ieee
set_option linter.unusedSimpArgs false
set_option linter.unusedVariables false

set_option maxRecDepth 100000 in
set_option maxHeartbeats 1000000 in
theorem convF_7 (x : Nat) (hx : B64 x) (w : World) : Calls Try.prog 49 #[.int .i64 7, .float .f64 x] w fun e w' => ConvFOk 7 x w e w' := by
  cases hn : nanD x
  · have up : ∀ (u : Nat) (w1 : World), u < 4294967296 → (nanS u = true ∧ (convert 58 25 (.float .f32 u)).run Try.prog w1 = .ok (.float .f64 ((Question.nanConv .f64 u).cut (w1.tape w1.drawn (Question.nanConv .f64 u)))) w1.drew) ∨ (nanS u = false ∧ (convert 58 25 (.float .f32 u)).run Try.prog w1 = .ok (.float .f64 (wide u)) w1) := fun u w1 hu => by
      cases hs : nanS u
      · exact Or.inr ⟨rfl, run_convert_float_float w1 58 25 .f32 .f64 u (wide u) und58 Try.underlying25 (wide_ok u hu hs)⟩
      · exact Or.inl ⟨rfl, run_nan_conv w1 58 25 .f32 .f64 u und58 Try.underlying25 (by decide) (dec_nanS u hs)⟩
    cases ho : over x
    · have c1 := run_convert_float_float (P := Try.prog) (w.alloc (.cells #[.int .i64 0, .float .f64 0, .float .f64 0] 29)) 25 58 .f64 .f32 x (narrow x) und25 Try.underlying58 (narrow_ok x hn ho)
      have c2 := run_convert_float_float (P := Try.prog) (w.alloc (.cells #[.int .i64 0, .float .f64 0, .float .f64 0] 29)) 58 25 .f32 .f64 (narrow x) (wide (narrow x)) und58 Try.underlying25 (wide_ok _ (narrow_lt x) (nanS_narrow x hn))
      have hS : SingleR x (wide (narrow x)) := ⟨wide_lt _, Or.inr ⟨hn, narrow x, narrow_lt x, Or.inr rfl, Or.inr ⟨nanS_narrow x hn, rfl⟩⟩⟩
      have HS := hide hS
      clear hS up
      go_enter Try.func49, Try.ntmps49
      go_wp2
      exact bodyPost_ret (v := .agg #[.int .i64 0, .float .f64 (wide (narrow x)), .float .f64 0]) (by simp [results, Try.results49, go_sem]) rfl ⟨_, _, rfl, Or.inr (Or.inl ⟨rfl, rfl, HS.out⟩), by repeat (first | with_reducible exact Ext.refl _ | with_reducible refine Ext.setCell ?_ (by simp; try omega) _ | with_reducible apply Ext.drewN | with_reducible apply Ext.drew | with_reducible apply Ext.alloc | refine Ext.trans ?_ (by assumption))⟩
    · have c1 := run_over_conv (w.alloc (.cells #[.int .i64 0, .float .f64 0, .float .f64 0] 29)) x hn ho
      have hu := over_cut x ((w.alloc (.cells #[.int .i64 0, .float .f64 0, .float .f64 0] 29)).tape (w.alloc (.cells #[.int .i64 0, .float .f64 0, .float .f64 0] 29)).drawn (Question.floatToFloat x))
      generalize hc : (Question.floatToFloat x).cut ((w.alloc (.cells #[.int .i64 0, .float .f64 0, .float .f64 0] 29)).tape (w.alloc (.cells #[.int .i64 0, .float .f64 0, .float .f64 0] 29)).drawn (Question.floatToFloat x)) = u at *
      have Hc := hide hc
      clear hc
      rcases up u (w.alloc (.cells #[.int .i64 0, .float .f64 0, .float .f64 0] 29)).drew hu with ⟨h1, h2⟩ | ⟨h1, h2⟩
      · have hq := nan_cut64 u ((w.alloc (.cells #[.int .i64 0, .float .f64 0, .float .f64 0] 29)).drew.tape (w.alloc (.cells #[.int .i64 0, .float .f64 0, .float .f64 0] 29)).drew.drawn (Question.nanConv .f64 u))
        generalize hd : (Question.nanConv .f64 u).cut ((w.alloc (.cells #[.int .i64 0, .float .f64 0, .float .f64 0] 29)).drew.tape (w.alloc (.cells #[.int .i64 0, .float .f64 0, .float .f64 0] 29)).drew.drawn (Question.nanConv .f64 u)) = r at *
        have Hd := hide hd
        have hS : SingleR x r := ⟨hq.2, Or.inr ⟨hn, u, hu, Or.inl ho, Or.inl ⟨h1, hq.1⟩⟩⟩
        have HS := hide hS
        clear hd hS up
        go_enter Try.func49, Try.ntmps49
        go_wp2
        exact bodyPost_ret (v := .agg #[.int .i64 0, .float .f64 r, .float .f64 0]) (by simp [results, Try.results49, go_sem]) rfl ⟨_, _, rfl, Or.inr (Or.inl ⟨rfl, rfl, HS.out⟩), by repeat (first | with_reducible exact Ext.refl _ | with_reducible refine Ext.setCell ?_ (by simp; try omega) _ | with_reducible apply Ext.drewN | with_reducible apply Ext.drew | with_reducible apply Ext.alloc | refine Ext.trans ?_ (by assumption))⟩
      · have hS : SingleR x (wide u) := ⟨wide_lt _, Or.inr ⟨hn, u, hu, Or.inl ho, Or.inr ⟨h1, rfl⟩⟩⟩
        have HS := hide hS
        clear hS up
        go_enter Try.func49, Try.ntmps49
        go_wp2
        exact bodyPost_ret (v := .agg #[.int .i64 0, .float .f64 (wide u), .float .f64 0]) (by simp [results, Try.results49, go_sem]) rfl ⟨_, _, rfl, Or.inr (Or.inl ⟨rfl, rfl, HS.out⟩), by repeat (first | with_reducible exact Ext.refl _ | with_reducible refine Ext.setCell ?_ (by simp; try omega) _ | with_reducible apply Ext.drewN | with_reducible apply Ext.drew | with_reducible apply Ext.alloc | refine Ext.trans ?_ (by assumption))⟩
  · have c1 := run_nan_conv (w.alloc (.cells #[.int .i64 0, .float .f64 0, .float .f64 0] 29)) 25 58 .f64 .f32 x und25 Try.underlying58 (by decide) (dec_nanD x hn)
    have hu := nan_cut32 x ((w.alloc (.cells #[.int .i64 0, .float .f64 0, .float .f64 0] 29)).tape (w.alloc (.cells #[.int .i64 0, .float .f64 0, .float .f64 0] 29)).drawn (Question.nanConv .f32 x))
    generalize hc : (Question.nanConv .f32 x).cut ((w.alloc (.cells #[.int .i64 0, .float .f64 0, .float .f64 0] 29)).tape (w.alloc (.cells #[.int .i64 0, .float .f64 0, .float .f64 0] 29)).drawn (Question.nanConv .f32 x)) = u at *
    have Hc := hide hc
    clear hc
    have c2 := run_nan_conv (w.alloc (.cells #[.int .i64 0, .float .f64 0, .float .f64 0] 29)).drew 58 25 .f32 .f64 u und58 Try.underlying25 (by decide) (dec_nanS u hu.1)
    have hq := nan_cut64 u ((w.alloc (.cells #[.int .i64 0, .float .f64 0, .float .f64 0] 29)).drew.tape (w.alloc (.cells #[.int .i64 0, .float .f64 0, .float .f64 0] 29)).drew.drawn (Question.nanConv .f64 u))
    generalize hd : (Question.nanConv .f64 u).cut ((w.alloc (.cells #[.int .i64 0, .float .f64 0, .float .f64 0] 29)).drew.tape (w.alloc (.cells #[.int .i64 0, .float .f64 0, .float .f64 0] 29)).drew.drawn (Question.nanConv .f64 u)) = r at *
    have Hd := hide hd
    have hS : SingleR x r := ⟨hq.2, Or.inl ⟨hn, hq.1⟩⟩
    have HS := hide hS
    clear hd hS
    go_enter Try.func49, Try.ntmps49
    go_wp2
    exact bodyPost_ret (v := .agg #[.int .i64 0, .float .f64 r, .float .f64 0]) (by simp [results, Try.results49, go_sem]) rfl ⟨_, _, rfl, Or.inr (Or.inl ⟨rfl, rfl, HS.out⟩), by repeat (first | with_reducible exact Ext.refl _ | with_reducible refine Ext.setCell ?_ (by simp; try omega) _ | with_reducible apply Ext.drewN | with_reducible apply Ext.drew | with_reducible apply Ext.alloc | refine Ext.trans ?_ (by assumption))⟩

theorem convF_any (to : Int) (h : 1 ≤ to ∧ to ≤ 9) (x : Nat) (hx : B64 x) (w : World) : Calls Try.prog 49 #[.int .i64 to, .float .f64 x] w fun e w' => ConvFOk to x w e w' := by
  by_cases h1 : to = 1
  · subst h1; exact convF_1 x hx w
  by_cases h7 : to = 7
  · subst h7; exact convF_7 x hx w
  by_cases h8 : to = 8 ∨ to = 9
  · exact convF_89 to h8 x hx w
  · exact convF_int to (by omega) x hx w
end Go.Proofs.Ythaajmkfeniofaa
