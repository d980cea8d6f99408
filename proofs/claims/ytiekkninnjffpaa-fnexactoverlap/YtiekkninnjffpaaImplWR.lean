import Derived.Test.YtiekkninnjffpaaDiffer
import Derived.Test.YtiekkninnjffpaaLawVV
namespace Go.Proofs.Ytiekkninnjffpaa
open Go.ChangeShapes Go.RowKit
set_option linter.unusedSimpArgs false
set_option linter.unusedVariables false

/-- A view that may be written. -/
abbrev WrV (xs ss : List Int) (off : Int) : Prop := ValidV xs ss off ∧ (offsL xs ss off).Nodup
def dcWrV (xs ss : List Int) (off : Int) : Bool := decide (WrV xs ss off)
theorem dcWrV_t {xs ss : List Int} {off : Int} (h : WrV xs ss off) : dcWrV xs ss off = true := decide_eq_true h
theorem dcWrV_f {xs ss : List Int} {off : Int} (h : ¬ WrV xs ss off) : dcWrV xs ss off = false := decide_eq_false h

theorem offs_in {xs ss : List Int} {off : Int} (hv : ValidV xs ss off) : ∀ x ∈ offsL xs ss off, 0 ≤ x ∧ x < 4096 := fun x hx => by
  unfold offsL at hx
  split at hx
  · cases hx
  · next hz =>
    obtain ⟨hg, hl, _, _, h | h⟩ := hv
    · exact absurd h hz
    · exact (all_in xs ss off hl.symm (fun n hn => (good_pos hg hz n hn).1)).2 h x hx
theorem differ_any {xs ss : List Int} {off : Int} (hv : ValidV xs ss off) (w : World) :
    Calls Try.prog 59 #[.agg (vw xs ss off)] w fun e w' => e = .returned (.bool (decide (offsL xs ss off).Nodup)) ∧ Bel w w' :=
  callsIn_wide.1 (differ_in 3 (Nat.le_refl _) xs ss off w hv.1.1 hv.2.1 hv.1.2.1 hv.1.2.2 hv.2.2.2.1 hv.2.2.1 (offs_in hv))

set_option maxRecDepth 100000 in
set_option maxHeartbeats 2000000 in
theorem iWR_any {w : World} {vS vT : Value} {xs ss : List Int} (hS : Ints w vS xs) (hT : Ints w vT ss) (off : Int) (lx : xs.length ≤ 1048576) (ls : ss.length ≤ 1048576) :
    Calls Try.prog 27 #[.agg #[vS, vT, .int .i64 off]] w fun e w' => e = .returned (.bool (dcWrV xs ss off)) ∧ Bel w w' := by
  have x0 : Ext w (w.alloc (.cells #[vS, vT, .int .i64 off] 27)) := (Ext.refl w).alloc _ _
  have X0 := hide x0
  have HS := hide (hS.ext x0)
  have HT := hide (hT.ext x0)
  obtain ⟨sa, cap, rfl, _⟩ := hS
  obtain ⟨ta, dap, rfl, _⟩ := hT
  clear x0
  go_enter Try.func27, Try.ntmps27
  go_wp2_with fail
  refine (fixView_any HS.out HT.out off lx ls).mono ?_
  rintro e w1 ⟨A, rfl, hA, ⟨a0, a1, a2, a3, a4, a5, a6, a7, a8, a9, rfl⟩, x1⟩
  have X1 := hide (X0.out.trans x1)
  clear x1
  by_cases hv : ValidV xs ss off
  · have HD : Hid (∀ W, Calls Try.prog 59 #[.agg #[.int .i64 a0, .int .i64 a1, .int .i64 a2, .int .i64 a3, .int .i64 a4, .int .i64 a5, .int .i64 a6, .int .i64 a7, .int .i64 a8, .int .i64 a9]] W fun e w' => e = .returned (.bool (dcWrV xs ss off)) ∧ Bel W w') := fun W => by
      rw [hA hv]
      have : (dcWrV xs ss off) = decide (offsL xs ss off).Nodup := by
        by_cases h : (offsL xs ss off).Nodup
        · rw [decide_eq_true h, dcWrV_t (show WrV xs ss off from ⟨hv, h⟩)]
        · rw [decide_eq_false h, dcWrV_f (fun q : WrV xs ss off => h q.2)]
      rw [this]
      exact differ_any hv W
    rw [dcValidV_t hv]
    clear hA hv HS HT X0
    have hs1 := X1.out.bl.size
    generalize hr : (dcWrV xs ss off) = r at *
    have Hr := hide hr
    clear hr
    go_wp2_with (go_at_call 59; refine (HD.out _).mono ?_; rintro e w2 ⟨rfl, x2⟩)
    go_ret
    exact ⟨ret_bool Hr.out.symm, Bel.tr (X1.out.alloc _ _).bl x2⟩
  · have hno : Hid ((dcWrV xs ss off) = false) := decide_eq_false (fun q => hv q.1)
    rw [dcValidV_f hv]
    clear hA hv HS HT X0
    go_wp2
    go_ret
    exact ⟨ret_bool hno.out.symm, (X1.out.alloc _ _).bl⟩
end Go.Proofs.Ytiekkninnjffpaa
