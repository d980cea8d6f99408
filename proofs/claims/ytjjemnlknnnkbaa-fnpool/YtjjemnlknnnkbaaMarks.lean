import Derived.Test.YtjjemnlknnnkbaaLists
namespace Go.Proofs.Ytjjemnlknnnkbaa
open Go.ChangeShapes Go.RowKit
set_option linter.unusedSimpArgs false
set_option linter.unusedVariables false

/-- A slice of integers that lies in blocks lo to hi. -/
def IntsB (w : World) (lo hi : Nat) (v : Value) (L : List Int) : Prop :=
  ∃ sa cap, v = .slice sa L.length cap ∧ (L = [] ∨ ∃ b off, sa = some ⟨b, off, none⟩ ∧ lo ≤ b ∧ b < hi ∧ Row w b off L)

theorem IntsB.ints {w : World} {lo hi : Nat} {v : Value} {L : List Int} (h : IntsB w lo hi v L) : Ints w v L := by
  obtain ⟨sa, cap, rfl, h⟩ := h
  refine ⟨sa, cap, rfl, ?_⟩
  rcases h with h | ⟨b, off, h1, _, _, h2⟩
  · exact Or.inl h
  · exact Or.inr ⟨b, off, h1, h2⟩
theorem IntsB.below {w w' : World} {lo hi B : Nat} {v : Value} {L : List Int} (h : IntsB w lo hi v L) (x : Below B w w') (hB : hi ≤ B) : IntsB w' lo hi v L := by
  obtain ⟨sa, cap, rfl, h⟩ := h
  refine ⟨sa, cap, rfl, ?_⟩
  rcases h with h | ⟨b, off, h1, h2, h3, h4⟩
  · exact Or.inl h
  · exact Or.inr ⟨b, off, h1, h2, h3, fun j hj => by rw [x.cell (p := ⟨b, off + j, none⟩) (by show b < B; omega)]; exact h4 j hj⟩
theorem IntsB.mut {w w' : World} {lo hi b : Nat} {v : Value} {L : List Int} (h : IntsB w lo hi v L) (x : Mut b w w') (hb : b < lo ∨ hi ≤ b) : IntsB w' lo hi v L := by
  obtain ⟨sa, cap, rfl, h⟩ := h
  refine ⟨sa, cap, rfl, ?_⟩
  rcases h with h | ⟨c, off, h1, h2, h3, h4⟩
  · exact Or.inl h
  · exact Or.inr ⟨c, off, h1, h2, h3, h4.mut x (by omega)⟩

set_option maxRecDepth 100000 in
set_option maxHeartbeats 1000000 in
theorem markInts_nil {w : World} {sa : Option Addr} {cap : Nat} (k : Int) :
    Calls Try.prog 17 #[.slice sa 0 cap, .int .i64 k] w fun e w' => e = .returned (.int .i64 k) ∧ w' = w := by
  go_enter Try.func17, Try.ntmps17
  go_wp2
  go_loopw [1, 5] (fun m i wr => i = .int .i64 0 ∧ m = .int .i64 k ∧ wr = w) (fun m i _ => 0)
  case atStart => exact ⟨rfl, rfl, rfl⟩
  case round =>
    obtain ⟨rfl, rfl, rfl⟩ := hrel
    go_wp2
    go_ret
    exact ⟨rfl, rfl⟩

/-- Blocks that were there are as before. -/
abbrev Bel (w w' : World) : Prop := Below w.heap.size w w'
theorem Bel.box {w w' : World} (x : Bel w w') {b o : Nat} {v : Value} (h : w.cell? ⟨b, o, none⟩ = some v) : w'.cell? ⟨b, o, none⟩ = some v := (Below.cell x (p := ⟨b, o, none⟩) (cell_lt h)).trans h
theorem Bel.tr {a b c : World} (x : Bel a b) (y : Bel b c) : Bel a c := Below.trans x (Below.mono y (Below.size x))

/-- Of what was there, blocks lo to hi alone may have turned. -/
structure MIn (lo hi : Nat) (w w' : World) : Prop where
  bl : Below lo w w'
  box : ∀ k o v, (k < lo ∨ hi ≤ k) → w.cell? ⟨k, o, none⟩ = some v → w'.cell? ⟨k, o, none⟩ = some v
  fz : ∀ a, w'.frozen? a = w.frozen? a
theorem Mut.mIn {lo hi b : Nat} {w w' : World} (m : Mut b w w') (h1 : lo ≤ b) (h2 : b < hi) (hl : lo ≤ w.heap.size) : MIn lo hi w w' :=
  ⟨⟨m.os, m.tape, m.output, m.size, fun j hj => m.block j (Nat.lt_of_lt_of_le hj hl) (by omega)⟩, fun k o v hk hc => m.box (by omega) hc, m.fz⟩
theorem Ext.mIn {lo hi : Nat} {w w' : World} (x : Ext w w') (hl : lo ≤ w.heap.size) : MIn lo hi w w' :=
  ⟨⟨x.bl.os, x.bl.tape, x.bl.output, x.bl.size, fun j hj => x.bl.block j (Nat.lt_of_lt_of_le hj hl)⟩, fun k o v hk hc => x.box hc, x.fz⟩
theorem IntsB.mIn {w w' : World} {lo hi l h : Nat} {v : Value} {L : List Int} (a : IntsB w l h v L) (x : MIn lo hi w w') (hb : h ≤ lo ∨ hi ≤ l) : IntsB w' l h v L := by
  obtain ⟨sa, cap, rfl, a⟩ := a
  refine ⟨sa, cap, rfl, ?_⟩
  rcases a with a | ⟨c, off, h1, h2, h3, h4⟩
  · exact Or.inl a
  · exact Or.inr ⟨c, off, h1, h2, h3, fun j hj => x.box _ _ _ (by omega) (h4 j hj)⟩
theorem IntsB.keep {w w' : World} {lo hi : Nat} {v : Value} {L : List Int} (h : IntsB w lo hi v L) (x : Bel w w') : IntsB w' lo hi v L := by
  obtain ⟨sa, cap, rfl, h⟩ := h
  refine ⟨sa, cap, rfl, ?_⟩
  rcases h with h | ⟨b, off, h1, h2, h3, h4⟩
  · exact Or.inl h
  · exact Or.inr ⟨b, off, h1, h2, h3, fun j hj => x.box (h4 j hj)⟩
theorem Ints.bound {w : World} {v : Value} {L : List Int} (h : Ints w v L) : IntsB w 0 w.heap.size v L := by
  obtain ⟨sa, cap, rfl, h⟩ := h
  refine ⟨sa, cap, rfl, ?_⟩
  rcases h with h | ⟨b, off, h1, h2⟩
  · exact Or.inl h
  · by_cases e : L = []
    · exact Or.inl e
    · have hl : 0 < L.length := List.length_pos_iff.2 e
      exact Or.inr ⟨b, off, h1, Nat.zero_le _, cell_lt (h2 0 hl), h2⟩

/-- The block of a slice is not frozen. -/
def FZ (w : World) (v : Value) (L : List Int) : Prop := L = [] ∨ ∃ b off n cap, v = .slice (some ⟨b, off, none⟩) n cap ∧ b < w.heap.size ∧ ∀ o, w.frozen? ⟨b, o, none⟩ = false
theorem FZ.keep {w w' : World} {v : Value} {L : List Int} (h : FZ w v L) (x : Bel w w') : FZ w' v L := by
  rcases h with h | ⟨b, off, n, cap, h1, h2, h3⟩
  · exact Or.inl h
  · exact Or.inr ⟨b, off, n, cap, h1, Nat.lt_of_lt_of_le h2 (Below.size x), fun o => (Below.frozen x (p := ⟨b, o, none⟩) h2).trans (h3 o)⟩
theorem FZ.mIn {w w' : World} {lo hi : Nat} {v : Value} {L : List Int} (h : FZ w v L) (x : MIn lo hi w w') : FZ w' v L := by
  rcases h with h | ⟨b, off, n, cap, h1, h2, h3⟩
  · exact Or.inl h
  · exact Or.inr ⟨b, off, n, cap, h1, Nat.lt_of_lt_of_le h2 (Below.size x.bl), fun o => (x.fz _).trans (h3 o)⟩

theorem markB2 {w : World} {lo hi : Nat} {v : Value} {L : List Int} (h : IntsB w lo hi v L) (hf : FZ w v L) (hlo : lo ≤ w.heap.size) (k : Int) (hk : 0 ≤ k ∧ k ≤ 1000000000000) (hl : L.length ≤ 1000000000000) :
    Calls Try.prog 17 #[v, .int .i64 k] w fun e w' => e = .returned (.int .i64 (k + L.length)) ∧ IntsB w' lo hi v (counted L.length k) ∧ MIn lo hi w w' := by
  obtain ⟨sa, cap, rfl, h⟩ := h
  by_cases he : L = []
  · subst he
    refine (markInts_nil k).mono ?_
    rintro e w' ⟨rfl, rfl⟩
    exact ⟨by simp, ⟨sa, cap, by rw [counted_len], Or.inl rfl⟩, (Ext.refl _).mIn hlo⟩
  · rcases h with h | ⟨b, off, rfl, h1, h2, h3⟩
    · exact absurd h he
    rcases hf with h | ⟨b2, off2, n2, cap2, e2, _, hf⟩
    · exact absurd h he
    simp only [Value.slice.injEq, Option.some.injEq, Addr.mk.injEq] at e2
    obtain ⟨⟨rfl, rfl, _⟩, rfl, rfl⟩ := e2
    refine (markInts_any h3 hf k hk hl).mono ?_
    rintro e w' ⟨rfl, hr, hm⟩
    exact ⟨rfl, ⟨_, cap, by rw [counted_len], Or.inr ⟨b, off, rfl, h1, h2, hr⟩⟩, hm.mIn h1 h2 hlo⟩

end Go.Proofs.Ytjjemnlknnnkbaa
