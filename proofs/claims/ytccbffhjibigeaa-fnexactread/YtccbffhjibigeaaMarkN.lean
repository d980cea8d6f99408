import Derived.Test.YtccbffhjibigeaaMarkG
namespace Go.Proofs.Ytccbffhjibigeaa
open Go.ChangeShapes Go.RowKit FL
set_option linter.unusedSimpArgs false
set_option linter.unusedVariables false
theorem MIn.lower {a b hi : Nat} {w w' : World} (x : MIn b hi w w') (h : a ≤ b) : MIn a hi w w' := ⟨Below.mono x.bl h, fun k o v hk hc => x.box k o v (by omega) hc, x.fz⟩
set_option maxRecDepth 100000 in
set_option maxHeartbeats 1000000 in
theorem markS_nil {w : World} {sa : Option Addr} {cap : Nat} (k : Int) :
    Calls Try.prog 37 #[.slice sa 0 cap, .int .i64 k] w fun e w' => e = .returned (.int .i64 k) ∧ w' = w := by
  go_enter Try.func37, Try.ntmps37
  go_wp2
  go_loopw [1, 5] (fun m i wr => i = .int .i64 0 ∧ m = .int .i64 k ∧ wr = w) (fun m i _ => 0)
  case atStart => exact ⟨rfl, rfl, rfl⟩
  case round =>
    obtain ⟨rfl, rfl, rfl⟩ := hrel
    go_wp2
    go_ret
    exact ⟨rfl, rfl⟩
set_option maxRecDepth 100000 in
set_option maxHeartbeats 1000000 in
theorem markHeap_two {w : World} {a hi b cap : Nat} {ss : List St} (h : WRow w (b + 1) hi b 0 ss) (ha : a ≤ b) (haw : a ≤ w.heap.size) (hh : hi ≤ w.heap.size) (hbh : ss = [] ∨ b < hi) (hf : ∀ c o, b ≤ c → c < hi → w.frozen? ⟨c, o, none⟩ = false) (hl : SL ss 1048576) :
    Calls Try.prog 19 #[.agg #[.slice (some ⟨b, 0, none⟩) ss.length cap], .int .i64 1] w fun e w' => (∃ r : Int, e = .returned (.int .i64 r) ∧ 0 ≤ r ∧ r ≤ 10000000000000) ∧ MIn a hi w w' := by
  rcases hbh with rfl | hbh
  · have X0 := hide (((Ext.refl w).alloc #[.slice (some ⟨b, 0, none⟩) (0 : Nat) cap] 29).mIn (lo := a) (hi := hi) haw)
    clear h hf hl
    show Calls Try.prog 19 #[.agg #[.slice (some ⟨b, 0, none⟩) 0 cap], .int .i64 1] w _
    go_enter Try.func19, Try.ntmps19
    go_wp2_with (go_at_call 37; refine (markS_nil 1).mono ?_; rintro e w2 ⟨rfl, rfl⟩)
    go_ret
    exact ⟨⟨1, rfl, by omega, by omega⟩, X0.out⟩
  · refine (markHeap_any h (by omega) hh hbh hf hl).mono ?_
    rintro e w' ⟨h1, h2⟩
    exact ⟨h1, h2.lower ha⟩
end Go.Proofs.Ytccbffhjibigeaa
