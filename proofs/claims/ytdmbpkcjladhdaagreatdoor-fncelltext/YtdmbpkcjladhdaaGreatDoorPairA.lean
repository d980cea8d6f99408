import Derived.Test.YtdmbpkcjladhdaaGreatDoorSource
namespace Go.Proofs.YtdmbpkcjladhdaaGreatDoor
open Go.RowKit FL
set_option linter.unusedSimpArgs false
set_option linter.unusedVariables false

set_option maxRecDepth 100000 in
set_option maxHeartbeats 3200000 in
theorem source_nil (w : World) : Calls Tryz.prog 10 #[.slice none 0 0] w fun e w' => SourceOk w e w' := by
  have S0 := hide (L1.start w)
  go_enter Tryz.func10, Tryz.ntmps10
  go_wp2
  go_loopw [4] (fun i wr => i = .int .i64 0 ∧ L1 w wr 0 (.slice none 0 0) [] 0 0) (fun _ _ => 0)
  case atStart => exact ⟨rfl, S0.out⟩
  case round =>
    obtain ⟨rfl, hL⟩ := hrel
    have HL := hide hL
    clear hL
    have c0 := HL.out.c0
    have c2 := HL.out.c2
    have cf := HL.out.fz
    have M0 := hide (HL.out.setMix 41)
    go_wp2
    go_loopw [5] (fun i wr2 => i = .int .i64 0 ∧ L1 w wr2 0 (.slice none 0 0) [] 41 0) (fun _ _ => 0)
    case atStart => exact ⟨rfl, M0.out⟩
    case round =>
      obtain ⟨rfl, hL2⟩ := hrel
      have H2 := hide hL2
      clear hL2
      have e0 := H2.out.c0
      have e2 := H2.out.c2
      have e3 := H2.out.c3
      have ef := H2.out.fz
      go_wp2
      go_ret
      have Z := H2.out.setSize 1
      exact ⟨w.heap.size, .slice none 0 0, 0, 41, 1, rfl, Z.src (by omega) ⟨by omega, by omega⟩ ⟨by omega, by omega⟩, Nat.le_refl _, Z.bl⟩

end Go.Proofs.YtdmbpkcjladhdaaGreatDoor
