import Derived.Test.YtiekkninnjffpaaImplBS
import Derived.Deep.QuietTactic
namespace Go.Proofs.Ytiekkninnjffpaa
open Go.ChangeShapes Go.RowKit
set_option linter.unusedSimpArgs false
set_option linter.unusedVariables false

/-- A slice of integers that lies in blocks lo to hi. -/
def IntsB (w : World) (lo hi : Nat) (v : Value) (L : List Int) : Prop :=
  ∃ sa cap, v = .slice sa L.length cap ∧ (L = [] ∨ ∃ b off, sa = some ⟨b, off, none⟩ ∧ lo ≤ b ∧ b < hi ∧ Row w b off L)

theorem IntsB.ints {w : World} {lo hi : Nat} {v : Value} {L : List Int} (h : IntsB w lo hi v L) : Ints w v L := by
  obtain ⟨sa, cap, rfl, h⟩ := h
  refine ⟨sa, cap, rfl, ?_⟩
  rcases h with h | ⟨b, off, h1, _, _, h2⟩
  · exact Or.inl h
  · exact Or.inr ⟨b, off, h1, h2⟩
theorem IntsB.below {w w' : World} {lo hi B : Nat} {v : Value} {L : List Int} (h : IntsB w lo hi v L) (x : Below B w w') (hB : hi ≤ B) : IntsB w' lo hi v L := by
  obtain ⟨sa, cap, rfl, h⟩ := h
  refine ⟨sa, cap, rfl, ?_⟩
  rcases h with h | ⟨b, off, h1, h2, h3, h4⟩
  · exact Or.inl h
  · exact Or.inr ⟨b, off, h1, h2, h3, fun j hj => by rw [x.cell (p := ⟨b, off + j, none⟩) (by show b < B; omega)]; exact h4 j hj⟩
theorem IntsB.mut {w w' : World} {lo hi b : Nat} {v : Value} {L : List Int} (h : IntsB w lo hi v L) (x : Mut b w w') (hb : b < lo ∨ hi ≤ b) : IntsB w' lo hi v L := by
  obtain ⟨sa, cap, rfl, h⟩ := h
  refine ⟨sa, cap, rfl, ?_⟩
  rcases h with h | ⟨c, off, h1, h2, h3, h4⟩
  · exact Or.inl h
  · exact Or.inr ⟨c, off, h1, h2, h3, h4.mut x (by omega)⟩

set_option maxRecDepth 100000 in
set_option maxHeartbeats 1000000 in
theorem markInts_nil {w : World} {sa : Option Addr} {cap : Nat} (k : Int) :
    Calls Try.prog 23 #[.slice sa 0 cap, .int .i64 k] w fun e w' => e = .returned (.int .i64 k) ∧ w' = w := by
  go_enter Try.func23, Try.ntmps23
  go_wp2
  go_loopw [1, 5] (fun m i wr => i = .int .i64 0 ∧ m = .int .i64 k ∧ wr = w) (fun m i _ => 0)
  case atStart => exact ⟨rfl, rfl, rfl⟩
  case round =>
    obtain ⟨rfl, rfl, rfl⟩ := hrel
    go_wp2
    go_ret
    exact ⟨rfl, rfl⟩

/-- mark, at whatever slice of the call's own. -/
theorem markB_any {w : World} {lo hi : Nat} {v : Value} {L : List Int} (h : IntsB w lo hi v L) (hf : ∀ b o, lo ≤ b → b < hi → w.frozen? ⟨b, o, none⟩ = false) (hlo : lo < hi) (k : Int) (hk : 0 ≤ k ∧ k ≤ 1000000000000) (hl : L.length ≤ 1000000000000) :
    Calls Try.prog 23 #[v, .int .i64 k] w fun e w' => e = .returned (.int .i64 (k + L.length)) ∧ IntsB w' lo hi v (counted L.length k) ∧ ∃ b, lo ≤ b ∧ b < hi ∧ Mut b w w' := by
  obtain ⟨sa, cap, rfl, h⟩ := h
  rcases h with rfl | ⟨b, off, rfl, h1, h2, h3⟩
  · refine (markInts_nil k).mono ?_
    rintro e w' ⟨rfl, rfl⟩
    exact ⟨by simp, ⟨sa, cap, by rw [counted_len], Or.inl rfl⟩, lo, Nat.le_refl _, hlo, Mut.refl _ _⟩
  · refine (markInts_any h3 (fun o => hf b o h1 h2) k hk hl).mono ?_
    rintro e w' ⟨rfl, hr, hm⟩
    exact ⟨rfl, ⟨_, cap, by rw [counted_len], Or.inr ⟨b, off, rfl, h1, h2, hr⟩⟩, b, h1, h2, hm⟩

set_option maxRecDepth 100000 in
set_option maxHeartbeats 2000000 in
theorem eqSR_true {w : World} {c : Int} {v u : Value} {L : List Int} (h : Ints w v L) (g : Ints w u L) (hl : L.length ≤ 1000000000000) :
    Calls Try.prog 21 #[.agg #[.int .i64 c, v], .agg #[.int .i64 c, u]] w fun e w' => e = .returned (.bool true) ∧ Ext w w' := by
  have x0 : Ext w ((w.alloc (.cells #[.int .i64 c, v] 32)).alloc (.cells #[.int .i64 c, u] 32)) := ((Ext.refl w).alloc _ _).alloc _ _
  have X0 := hide x0
  have H := hide (h.ext x0)
  have G := hide (g.ext x0)
  obtain ⟨sa, cap, rfl, _⟩ := h
  obtain ⟨ta, dap, rfl, _⟩ := g
  clear x0
  go_enter Try.func21, Try.ntmps21
  go_wp2_with fail
  refine (eqInts_any H.out G.out hl).mono ?_
  rintro e w1 ⟨rfl, x1⟩
  have X1 := hide x1
  clear x1
  rw [show decide (L = L) = true from by simp]
  go_wp2
  go_ret
  exact ⟨rfl, X0.out.trans X1.out⟩

set_option maxRecDepth 100000 in
set_option maxHeartbeats 2000000 in
theorem markSR_any {w : World} {lo hi : Nat} {c : Int} {v : Value} {L : List Int} (h : IntsB w lo hi v L) (hf : ∀ b o, lo ≤ b → b < hi → w.frozen? ⟨b, o, none⟩ = false) (hlo : lo < hi) (hhi : hi ≤ w.heap.size) (hl : L.length ≤ 1000000000) :
    Calls Try.prog 24 #[.agg #[.int .i64 c, v], .int .i64 1] w fun e w' => e = .returned (.int .i64 (1 + L.length)) ∧ IntsB w' lo hi v (counted L.length 1) ∧ ∃ b, lo ≤ b ∧ b < hi ∧ Mut b w w' := by
  have x0 : Ext w (w.alloc (.cells #[.int .i64 c, v] 32)) := (Ext.refl w).alloc _ _
  have X0 := hide x0
  have H := hide (h.below x0.bl hhi)
  have F : Hid (∀ b o, lo ≤ b → b < hi → (w.alloc (.cells #[.int .i64 c, v] 32)).frozen? ⟨b, o, none⟩ = false) := fun b o h1 h2 => (x0.fz _).trans (hf b o h1 h2)
  obtain ⟨sa, cap, rfl, _⟩ := h
  clear x0 hf
  go_enter Try.func24, Try.ntmps24
  go_wp2_with fail
  refine (markB_any H.out F.out hlo 1 (by omega) (by omega)).mono ?_
  rintro e w1 ⟨rfl, h1, b, hb1, hb2, hm⟩
  have H1 := hide h1
  have HM := hide hm
  clear h1 hm
  go_wp2
  go_ret
  exact ⟨rfl, H1.out, b, hb1, hb2, (X0.out.mut b).trans HM.out⟩

set_option maxRecDepth 100000 in
set_option maxHeartbeats 2000000 in
theorem heldSR_any {w : World} {c : Int} {v : Value} {n : Nat} (h : Ints w v (counted n 1)) (hl : n ≤ 1000000000) :
    Calls Try.prog 25 #[.agg #[.int .i64 c, v], .int .i64 1] w fun e w' => e = .returned (.int .i64 (1 + n)) ∧ Ext w w' := by
  have x0 : Ext w (w.alloc (.cells #[.int .i64 c, v] 32)) := (Ext.refl w).alloc _ _
  have X0 := hide x0
  have H := hide (h.ext x0)
  obtain ⟨sa, cap, rfl, _⟩ := h
  clear x0
  go_enter Try.func25, Try.ntmps25
  go_wp2_with fail
  refine (heldInts_any 1 H.out (by omega) (by omega)).mono ?_
  rintro e w1 ⟨rfl, rfl⟩
  go_wp2
  go_ret
  exact ⟨rfl, X0.out⟩
end Go.Proofs.Ytiekkninnjffpaa
