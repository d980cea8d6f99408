import Derived.Test.YtjjemnlknnnkbaaTurns
import Derived.Deep.RegionHeld3
namespace Go.Proofs.Ytjjemnlknnnkbaa
open Go.ChangeShapes Go.RowKit Go.MuLone
set_option linter.unusedSimpArgs false
set_option linter.unusedVariables false

/-- v is a slice of these turns. -/
def TurnsV (w : World) (v : Value) (ts : List TurnL) : Prop := ∃ sa cap, v = .slice sa ts.length cap ∧ (ts = [] ∨ ∃ g, sa = some ⟨g, 0, none⟩ ∧ TRow w g ts)

set_option maxRecDepth 100000 in
set_option maxHeartbeats 1000000 in
theorem eqTurn_same (w : World) (a b : Int) (c : Bool) :
    Calls Try.prog 37 #[.agg #[.int .i64 a, .int .i64 b, .bool c], .agg #[.int .i64 a, .int .i64 b, .bool c]] w fun e w' => e = .returned (.bool true) ∧ Ext w w' := by
  have x0 : Hid (Ext w ((w.alloc (.cells #[.int .i64 a, .int .i64 b, .bool c] 68)).alloc (.cells #[.int .i64 a, .int .i64 b, .bool c] 68))) := ((Ext.refl w).alloc _ _).alloc _ _
  go_enter Try.func37, Try.ntmps37
  go_wp2_with fail
  go_ret
  exact ⟨rfl, x0.out⟩

set_option maxRecDepth 100000 in
set_option maxHeartbeats 1000000 in
theorem eqTurns_true {w : World} {v u : Value} {ts : List TurnL} (h : TurnsV w v ts) (g : TurnsV w u ts) (hl : ts.length ≤ 8192) :
    Calls Try.prog 15 #[v, u] w fun e w' => e = .returned (.bool true) ∧ Ext w w' := by
  obtain ⟨sa, cap, rfl, hx⟩ := h
  obtain ⟨ta, dap, rfl, hy⟩ := g
  have HX := hide hx
  have HY := hide hy
  clear hx hy
  go_enter Try.func15, Try.ntmps15
  go_wp2
  go_loopw [5] (fun i wr => ∃ k : Nat, i = .int .i64 k ∧ k ≤ ts.length ∧ Ext w wr) (fun i _ => ts.length - (intOf i).toNat)
  case atStart => exact ⟨0, rfl, by omega, Ext.refl w⟩
  case round =>
    obtain ⟨k, rfl, hk, hw⟩ := hrel
    have HW := hide hw
    clear hw
    by_cases hlt : k < ts.length
    · rcases HX.out with h0 | ⟨b, rfl, hrow⟩
      · rw [h0] at hlt; simp at hlt
      rcases HY.out with h0 | ⟨b2, rfl, hrow2⟩
      · rw [h0] at hlt; simp at hlt
      have q0 := HW.out.box (hrow k hlt).1
      have q1 := HW.out.box (hrow k hlt).2.1
      have q2 := HW.out.box (hrow k hlt).2.2
      have r0 := HW.out.box (hrow2 k hlt).1
      have r1 := HW.out.box (hrow2 k hlt).2.1
      have r2 := HW.out.box (hrow2 k hlt).2.2
      have hk0 : (0 : Int) ≤ (k : Int) := Int.natCast_nonneg _
      have hk1 : (k : Int) < (ts.length : Int) := by omega
      generalize (ts.getD k t0).1 = A at q0 r0
      generalize (ts.getD k t0).2.1 = B at q1 r1
      generalize (ts.getD k t0).2.2 = C at q2 r2
      clear hrow hrow2
      have SA : Hid ((fun w' => w'.cell? ⟨b, k * 3, none⟩ = some (.int .i64 A) ∧ w'.cell? ⟨b, k * 3 + 1, none⟩ = some (.int .i64 B) ∧ w'.cell? ⟨b, k * 3 + 2, none⟩ = some (.bool C) ∧ w'.cell? ⟨b2, k * 3, none⟩ = some (.int .i64 A) ∧ w'.cell? ⟨b2, k * 3 + 1, none⟩ = some (.int .i64 B) ∧ w'.cell? ⟨b2, k * 3 + 2, none⟩ = some (.bool C)) wr.drew) := ⟨q0, q1, q2, r0, r1, r2⟩
      go_wp2_with fail
      go_region_held3 (fun w' => w'.cell? ⟨b, k * 3, none⟩ = some (.int .i64 A) ∧ w'.cell? ⟨b, k * 3 + 1, none⟩ = some (.int .i64 B) ∧ w'.cell? ⟨b, k * 3 + 2, none⟩ = some (.bool C) ∧ w'.cell? ⟨b2, k * 3, none⟩ = some (.int .i64 A) ∧ w'.cell? ⟨b2, k * 3 + 1, none⟩ = some (.int .i64 B) ∧ w'.cell? ⟨b2, k * 3 + 2, none⟩ = some (.bool C)) (first | with_reducible exact SA.out | with_reducible exact SB'.out | exact SA.out | exact SB'.out | fail) (first | (go_at_call 37; refine (eqTurn_same _ A B C).mono ?_; rintro e w2 ⟨rfl, x2⟩; have HW2 := hide (HW.out.drew.trans x2); have SB' : Hid ((fun w' => w'.cell? ⟨b, k * 3, none⟩ = some (.int .i64 A) ∧ w'.cell? ⟨b, k * 3 + 1, none⟩ = some (.int .i64 B) ∧ w'.cell? ⟨b, k * 3 + 2, none⟩ = some (.bool C) ∧ w'.cell? ⟨b2, k * 3, none⟩ = some (.int .i64 A) ∧ w'.cell? ⟨b2, k * 3 + 1, none⟩ = some (.int .i64 B) ∧ w'.cell? ⟨b2, k * 3 + 2, none⟩ = some (.bool C)) w2) := ⟨x2.box q0, x2.box q1, x2.box q2, x2.box r0, x2.box r1, x2.box r2⟩; clear x2) | fail)
      go_wp2
      go_roundw
      · exact ⟨k + 1, by go_num, by omega, HW2.out⟩
      · simp [intOf]; omega
    · have hkk : k = ts.length := by omega
      subst hkk
      go_wp2
      go_ret
      exact ⟨rfl, HW.out⟩
end Go.Proofs.Ytjjemnlknnnkbaa
