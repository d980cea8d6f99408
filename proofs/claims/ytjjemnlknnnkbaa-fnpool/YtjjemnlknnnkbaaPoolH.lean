import Derived.Test.YtjjemnlknnnkbaaPoolF
namespace Go.Proofs.Ytjjemnlknnnkbaa
open Go.ChangeShapes Go.RowKit Go.Lib Go.ChangeMaps
set_option linter.unusedSimpArgs false
set_option linter.unusedVariables false
theorem wf_size {s : Int} (hs : 16 ≤ s ∧ s ≤ 65536) : (Lit.int .i64 s).wf = true := by
  have h1 : IntKind.i64.min = -9223372036854775808 := by decide
  have h2 : IntKind.i64.max = 9223372036854775807 := by decide
  simp [Lit.wf, h1, h2]; omega
set_option maxHeartbeats 800000 in
/-- size of a block -/
theorem size_any {w : World} {g o : Nat} {v : Value} {s : Int} (hc : w.cell? ⟨g, o, none⟩ = some v) (hv : Byt w v s) :
    Calls Try.prog 50 #[.pointer (some ⟨g, o, none⟩)] w fun e w' => e = .returned (.int .i64 s) ∧ w' = w := by
  obtain ⟨y, m, cur, rfl, rfl, h1, h2⟩ := hv
  go_enter Try.func50, Try.ntmps50
  go_wp2
  go_ret
  exact ⟨rfl, rfl⟩

set_option maxHeartbeats 800000 in
theorem reuse_none {w : World} {base P Mb n : Nat} {sum budget : Int} {bs : List Blk} {zs : List IB} {vB : Value} {M : Int → Value} {F : Int → List Int} (h : PIv w base P Mb n sum budget bs zs vB M F) (s : Int) (hs : 16 ≤ s ∧ s ≤ 65536) (hf : F s = []) :
    Calls Try.prog 47 #[.pointer (some ⟨P, 0, none⟩), .int .i64 s] w fun e w' => e = .returned (.int .i64 (-1)) ∧ w' = w := by
  have c5 := h.pb.c5
  have hwf := wf_size hs
  have hlk := mp_look h.mp hwf
  have hx : Hid (Ext w w) := Ext.refl w
  rcases h.fr s with ⟨h1, h2⟩ | ⟨b, off, cap, h2, h3⟩
  · rw [h2] at hlk
    clear h
    go_enter Try.func47, Try.ntmps47
    go_wp2
    go_ret
    exact ⟨rfl, rfl⟩
  · rw [h2, hf] at hlk
    clear h
    go_enter Try.func47, Try.ntmps47
    go_wp2
    go_ret
    exact ⟨rfl, rfl⟩
end Go.Proofs.Ytjjemnlknnnkbaa
