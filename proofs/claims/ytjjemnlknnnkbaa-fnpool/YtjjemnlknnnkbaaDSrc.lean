import Derived.Test.YtjjemnlknnnkbaaTurns
import Derived.WalkKit
import Derived.Deep.QuietTactic
namespace Go.Proofs.Ytjjemnlknnnkbaa
open Go.ChangeShapes Go.RowKit Go.MuLone
set_option linter.unusedSimpArgs false
set_option linter.unusedVariables false

/-- The state of a source of draws: how many bytes are used, the mix. -/
abbrev SS := Nat × Int
/-- One draw below m. -/
def nextL (cs : List Int) (s : SS) (m : Int) : Int × SS :=
  if m ≤ 1 then (0, s)
  else if s.1 < cs.length ∧ m ≤ 256 then (cs.getD s.1 0 % m, (s.1 + 1, s.2))
  else ((s.2 * 1103 + 12347) % 1000003 / 3 % m, (s.1, (s.2 * 1103 + 12347) % 1000003))
/-- A source of draws lies in block b. -/
structure Src (w : World) (b : Nat) (sv : Value) (cs : List Int) (s : SS) (size : Int) : Prop where
  c0 : w.cell? ⟨b, 0, none⟩ = some sv
  c1 : w.cell? ⟨b, 1, none⟩ = some (.int .i64 s.1)
  c2 : w.cell? ⟨b, 2, none⟩ = some (.int .i64 s.2)
  c3 : w.cell? ⟨b, 3, none⟩ = some (.int .i64 size)
  fz : ∀ o, w.frozen? ⟨b, o, none⟩ = false
  atn : s.1 ≤ cs.length
  nle : cs.length ≤ 4000
  mix0 : 0 ≤ s.2
  mix1 : s.2 < 1000003
  size0 : 1 ≤ size
  size1 : size ≤ 7
  byt : ∀ j, j < cs.length → 0 ≤ cs.getD j 0 ∧ cs.getD j 0 < 256
  code : (cs = [] ∧ sv = .slice none 0 0) ∨ ∃ g cap, sv = .slice (some ⟨g, 0, none⟩) cs.length cap ∧ g ≠ b ∧ ∀ j, j < cs.length → w.cell? ⟨g, j, none⟩ = some (.int .u8 (cs.getD j 0))

theorem Src.keep {w w' : World} {b : Nat} {sv : Value} {cs : List Int} {s : SS} {size : Int} (h : Src w b sv cs s size) (x : Bel w w') : Src w' b sv cs s size := by
  have hb := cell_lt h.c0
  refine ⟨Bel.box x h.c0, Bel.box x h.c1, Bel.box x h.c2, Bel.box x h.c3, fun o => (Below.frozen x (p := ⟨b, o, none⟩) hb).trans (h.fz o), h.atn, h.nle, h.mix0, h.mix1, h.size0, h.size1, h.byt, ?_⟩
  rcases h.code with hc | ⟨g, cap, h1, h2, h3⟩
  · exact Or.inl hc
  · exact Or.inr ⟨g, cap, h1, h2, fun j hj => Bel.box x (h3 j hj)⟩
theorem Src.upd {w w' : World} {b : Nat} {sv : Value} {cs : List Int} {s : SS} {size : Int} (h : Src w b sv cs s size) (m : Mut b w w') (s2 : SS)
    (c0 : w'.cell? ⟨b, 0, none⟩ = some sv) (c1 : w'.cell? ⟨b, 1, none⟩ = some (.int .i64 s2.1)) (c2 : w'.cell? ⟨b, 2, none⟩ = some (.int .i64 s2.2)) (c3 : w'.cell? ⟨b, 3, none⟩ = some (.int .i64 size))
    (hb : s2.1 ≤ cs.length) (hm : 0 ≤ s2.2) (hm2 : s2.2 < 1000003) : Src w' b sv cs s2 size := by
  refine ⟨c0, c1, c2, c3, fun o => (m.fz _).trans (h.fz o), hb, h.nle, hm, hm2, h.size0, h.size1, h.byt, ?_⟩
  rcases h.code with hc | ⟨g, cap, h1, h2, h3⟩
  · exact Or.inl hc
  · exact Or.inr ⟨g, cap, h1, h2, fun j hj => m.box h2 (h3 j hj)⟩

/-- l1Next at most one: 0, nothing drawn. -/
theorem l1next_one (b : Nat) (m : Int) (hm : m ≤ 1) (w : World) :
    Calls Try.prog 28 #[.pointer (some ⟨b, 0, none⟩), .int .i64 m] w fun e w' => e = .returned (.int .i64 0) ∧ w' = w := by
  go_enter Try.func28, Try.ntmps28
  go_wp2
  go_ret
  exact ⟨rfl, rfl⟩

theorem l1next_byte (b : Nat) (m : Int) (hm : 1 < m) (hm2 : m ≤ 256) (g cap n : Nat) (at_ x : Int) (w : World) (hn : n ≤ 4000) (hx0 : 0 ≤ x) (hx1 : x < 256)
    (c0 : w.cell? ⟨b, 0, none⟩ = some (.slice (some ⟨g, 0, none⟩) n cap)) (c1 : w.cell? ⟨b, 1, none⟩ = some (.int .i64 at_)) (fz : ∀ o, w.frozen? ⟨b, o, none⟩ = false)
    (ha : 0 ≤ at_) (hlt : at_ < n) (hc : w.cell? ⟨g, at_.toNat, none⟩ = some (.int .u8 x)) :
    Calls Try.prog 28 #[.pointer (some ⟨b, 0, none⟩), .int .i64 m] w fun e w' => e = .returned (.int .i64 (x % m)) ∧ ∃ k, w' = (w.setCell ⟨b, 1, none⟩ (.int .i64 (at_ + 1))).drewN k := by
  have d1 : decide (at_ < (n : Int)) = true := decide_eq_true hlt
  have d2 : decide (m ≤ 256) = true := decide_eq_true hm2
  go_enter Try.func28, Try.ntmps28
  go_wp2_with fail
  go_quiet (fail)
  go_wp2_with fail
  go_quiet (fail)
  go_wp2
  go_ret
  exact ⟨rfl, _, rfl⟩

theorem l1next_mix (b : Nat) (m : Int) (hm : 1 < m) (sv : Value) (n : Nat) (at_ mix : Int) (w : World)
    (hs : ∃ a cap, sv = .slice a n cap) (hn : n ≤ 4000)
    (c0 : w.cell? ⟨b, 0, none⟩ = some sv) (c1 : w.cell? ⟨b, 1, none⟩ = some (.int .i64 at_)) (c2 : w.cell? ⟨b, 2, none⟩ = some (.int .i64 mix)) (fz : ∀ o, w.frozen? ⟨b, o, none⟩ = false)
    (hor : ¬ (at_ < n ∧ m ≤ 256)) (hx0 : 0 ≤ mix) (hx1 : mix < 1000003) :
    Calls Try.prog 28 #[.pointer (some ⟨b, 0, none⟩), .int .i64 m] w fun e w' => e = .returned (.int .i64 ((mix * 1103 + 12347) % 1000003 / 3 % m)) ∧ ∃ k, w' = (w.setCell ⟨b, 2, none⟩ (.int .i64 ((mix * 1103 + 12347) % 1000003))).drewN k := by
  obtain ⟨a, cap, rfl⟩ := hs
  by_cases h1 : at_ < (n : Int)
  · have h2 : ¬ m ≤ 256 := fun h => hor ⟨h1, h⟩
    have d1 : decide (at_ < (n : Int)) = true := decide_eq_true h1
    have d2 : decide (m ≤ 256) = false := decide_eq_false h2
    clear hor
    go_enter Try.func28, Try.ntmps28
    go_wp2_with fail
    go_quiet (fail)
    go_wp2
    go_ret
    exact ⟨rfl, _, rfl⟩
  · have d1 : decide (at_ < (n : Int)) = false := decide_eq_false h1
    clear hor
    go_enter Try.func28, Try.ntmps28
    go_wp2_with fail
    go_quiet (fail)
    go_wp2
    go_ret
    exact ⟨rfl, _, rfl⟩

/-- l1Next -/
theorem l1next_any {w : World} {b : Nat} {sv : Value} {cs : List Int} {s : SS} {size : Int} (h : Src w b sv cs s size) (m : Int) :
    Calls Try.prog 28 #[.pointer (some ⟨b, 0, none⟩), .int .i64 m] w fun e w' => e = .returned (.int .i64 (nextL cs s m).1) ∧ Src w' b sv cs (nextL cs s m).2 size ∧ Mut b w w' := by
  unfold nextL
  by_cases hm : m ≤ 1
  · rw [if_pos hm]
    refine (l1next_one b m hm w).mono ?_
    rintro e w' ⟨rfl, rfl⟩
    exact ⟨rfl, h, Mut.refl _ _⟩
  rw [if_neg hm]
  by_cases hc : s.1 < cs.length ∧ m ≤ 256
  · rw [if_pos hc]
    rcases h.code with ⟨hn0, _⟩ | ⟨g, cap, hsv, hg, hb⟩
    · rw [hn0] at hc; simp at hc
    · have hx := hb s.1 hc.1
      have hxb := h.byt s.1 hc.1
      subst hsv
      refine (l1next_byte b m (by omega) hc.2 g cap cs.length s.1 (cs.getD s.1 0) w h.nle hxb.1 hxb.2 h.c0 h.c1 h.fz (by omega) (by omega) (by rw [Int.toNat_natCast]; exact hx)).mono ?_
      rintro e w' ⟨rfl, k, rfl⟩
      have hmm : Mut b w ((w.setCell ⟨b, 1, none⟩ (.int .i64 (s.1 + 1))).drewN k) := ((Mut.refl b w).setCell 1 _).drewN k
      refine ⟨rfl, h.upd hmm (s.1 + 1, s.2) ?_ ?_ ?_ ?_ (by simp only; omega) h.mix0 h.mix1, hmm⟩
      · simp [go_sem, h.c0]
      · simp [go_sem, h.c1]
      · simp [go_sem, h.c2]
      · simp [go_sem, h.c3]
  · rw [if_neg hc]
    have hsl : ∃ a cap, sv = .slice a cs.length cap := by
      rcases h.code with ⟨h1, h2⟩ | ⟨g, cap, h1, _⟩
      · exact ⟨none, 0, by rw [h2, h1]; rfl⟩
      · exact ⟨_, _, h1⟩
    refine (l1next_mix b m (by omega) sv cs.length s.1 s.2 w hsl h.nle h.c0 h.c1 h.c2 h.fz (by omega) h.mix0 h.mix1).mono ?_
    rintro e w' ⟨rfl, k, rfl⟩
    have hmm : Mut b w ((w.setCell ⟨b, 2, none⟩ (.int .i64 ((s.2 * 1103 + 12347) % 1000003))).drewN k) := ((Mut.refl b w).setCell 2 _).drewN k
    refine ⟨rfl, h.upd hmm (s.1, (s.2 * 1103 + 12347) % 1000003) ?_ ?_ ?_ ?_ h.atn (by simp only; omega) (by simp only; omega), hmm⟩
    · simp [go_sem, h.c0]
    · simp [go_sem, h.c1]
    · simp [go_sem, h.c2]
    · simp [go_sem, h.c3]
theorem nextL_bd (cs : List Int) (s : SS) (m : Int) (hs : 0 ≤ s.2) : 0 ≤ (nextL cs s m).1 ∧ (1 ≤ m → (nextL cs s m).1 < m) := by
  unfold nextL
  split
  · exact ⟨by simp, fun h => by simp; omega⟩
  · split
    · exact ⟨Int.emod_nonneg _ (by omega), fun h => Int.emod_lt_of_pos _ (by omega)⟩
    · exact ⟨Int.emod_nonneg _ (by omega), fun h => Int.emod_lt_of_pos _ (by omega)⟩
theorem Src.nextBd {w : World} {b : Nat} {sv : Value} {cs : List Int} {s : SS} {size : Int} (h : Src w b sv cs s size) (m : Int) : 0 ≤ (nextL cs s m).1 ∧ (1 ≤ m → (nextL cs s m).1 < m) := nextL_bd cs s m h.mix0
end Go.Proofs.Ytjjemnlknnnkbaa
