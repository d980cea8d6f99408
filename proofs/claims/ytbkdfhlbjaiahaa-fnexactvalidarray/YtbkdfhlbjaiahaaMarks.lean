import Derived.Test.YtbkdfhlbjaiahaaImplBS
import Derived.Deep.QuietTactic
namespace Go.Proofs.Ytbkdfhlbjaiahaa
open Go.ChangeShapes Go.RowKit
set_option linter.unusedSimpArgs false
set_option linter.unusedVariables false

/-- A slice of integers that lies in blocks lo to hi. -/
def IntsB (w : World) (lo hi : Nat) (v : Value) (L : List Int) : Prop :=
  ∃ sa cap, v = .slice sa L.length cap ∧ (L = [] ∨ ∃ b off, sa = some ⟨b, off, none⟩ ∧ lo ≤ b ∧ b < hi ∧ Row w b off L)

theorem IntsB.ints {w : World} {lo hi : Nat} {v : Value} {L : List Int} (h : IntsB w lo hi v L) : Ints w v L := by
  obtain ⟨sa, cap, rfl, h⟩ := h
  refine ⟨sa, cap, rfl, ?_⟩
  rcases h with h | ⟨b, off, h1, _, _, h2⟩
  · exact Or.inl h
  · exact Or.inr ⟨b, off, h1, h2⟩
theorem IntsB.below {w w' : World} {lo hi B : Nat} {v : Value} {L : List Int} (h : IntsB w lo hi v L) (x : Below B w w') (hB : hi ≤ B) : IntsB w' lo hi v L := by
  obtain ⟨sa, cap, rfl, h⟩ := h
  refine ⟨sa, cap, rfl, ?_⟩
  rcases h with h | ⟨b, off, h1, h2, h3, h4⟩
  · exact Or.inl h
  · exact Or.inr ⟨b, off, h1, h2, h3, fun j hj => by rw [x.cell (p := ⟨b, off + j, none⟩) (by show b < B; omega)]; exact h4 j hj⟩
theorem IntsB.mut {w w' : World} {lo hi b : Nat} {v : Value} {L : List Int} (h : IntsB w lo hi v L) (x : Mut b w w') (hb : b < lo ∨ hi ≤ b) : IntsB w' lo hi v L := by
  obtain ⟨sa, cap, rfl, h⟩ := h
  refine ⟨sa, cap, rfl, ?_⟩
  rcases h with h | ⟨c, off, h1, h2, h3, h4⟩
  · exact Or.inl h
  · exact Or.inr ⟨c, off, h1, h2, h3, h4.mut x (by omega)⟩

set_option maxRecDepth 100000 in
set_option maxHeartbeats 1000000 in
theorem markInts_nil {w : World} {sa : Option Addr} {cap : Nat} (k : Int) :
    Calls Try.prog 59 #[.slice sa 0 cap, .int .i64 k] w fun e w' => e = .returned (.int .i64 k) ∧ w' = w := by
  go_enter Try.func59, Try.ntmps59
  go_wp2
  go_loopw [1, 5] (fun m i wr => i = .int .i64 0 ∧ m = .int .i64 k ∧ wr = w) (fun m i _ => 0)
  case atStart => exact ⟨rfl, rfl, rfl⟩
  case round =>
    obtain ⟨rfl, rfl, rfl⟩ := hrel
    go_wp2
    go_ret
    exact ⟨rfl, rfl⟩

/-- mark, at whatever slice of the call's own. -/
theorem markB_any {w : World} {lo hi : Nat} {v : Value} {L : List Int} (h : IntsB w lo hi v L) (hf : ∀ b o, lo ≤ b → b < hi → w.frozen? ⟨b, o, none⟩ = false) (hlo : lo < hi) (k : Int) (hk : 0 ≤ k ∧ k ≤ 1000000000000) (hl : L.length ≤ 1000000000000) :
    Calls Try.prog 59 #[v, .int .i64 k] w fun e w' => e = .returned (.int .i64 (k + L.length)) ∧ IntsB w' lo hi v (counted L.length k) ∧ ∃ b, lo ≤ b ∧ b < hi ∧ Mut b w w' := by
  obtain ⟨sa, cap, rfl, h⟩ := h
  rcases h with rfl | ⟨b, off, rfl, h1, h2, h3⟩
  · refine (markInts_nil k).mono ?_
    rintro e w' ⟨rfl, rfl⟩
    exact ⟨by simp, ⟨sa, cap, by rw [counted_len], Or.inl rfl⟩, lo, Nat.le_refl _, hlo, Mut.refl _ _⟩
  · refine (markInts_any h3 (fun o => hf b o h1 h2) k hk hl).mono ?_
    rintro e w' ⟨rfl, hr, hm⟩
    exact ⟨rfl, ⟨_, cap, by rw [counted_len], Or.inr ⟨b, off, rfl, h1, h2, hr⟩⟩, b, h1, h2, hm⟩

end Go.Proofs.Ytbkdfhlbjaiahaa
