import Derived.Test.YthaajmkfeniofaaUnary
namespace Go.Proofs.Ythaajmkfeniofaa
open Go.RowKit FL
set_option linter.unusedSimpArgs false
set_option linter.unusedVariables false

/-- Of what was there, block b alone may have turned; new blocks and draws. -/
structure Mut (b : Nat) (w w' : World) : Prop where
  os : w'.os = w.os
  tape : w'.tape = w.tape
  output : w'.output = w.output
  size : w.heap.size ≤ w'.heap.size
  block : ∀ k, k < w.heap.size → k ≠ b → w'.heap[k]? = w.heap[k]?
  fz : ∀ a, w'.frozen? a = w.frozen? a

theorem Mut.refl (b : Nat) (w : World) : Mut b w w := ⟨rfl, rfl, rfl, Nat.le_refl _, fun _ _ _ => rfl, fun _ => rfl⟩
theorem Mut.trans {b : Nat} {a c d : World} (h : Mut b a c) (k : Mut b c d) : Mut b a d :=
  ⟨k.os.trans h.os, k.tape.trans h.tape, k.output.trans h.output, Nat.le_trans h.size k.size, fun i hi hn => (k.block i (Nat.lt_of_lt_of_le hi h.size) hn).trans (h.block i hi hn), fun a => (k.fz a).trans (h.fz a)⟩
theorem Ext.mut {a c : World} (h : Ext a c) (b : Nat) : Mut b a c :=
  ⟨h.bl.os, h.bl.tape, h.bl.output, h.bl.size, fun i hi _ => h.bl.block i hi, h.fz⟩
theorem Mut.setCell {b : Nat} {a c : World} (h : Mut b a c) (o : Nat) (v : Value) : Mut b a (c.setCell ⟨b, o, none⟩ v) :=
  h.trans ⟨rfl, rfl, rfl, by simp [World.setCell], fun k hk hn => Below.heap_setCell _ _ _ _ hn, fun x => World.frozen?_setCell _ _ _ _⟩
theorem Mut.drewN {b : Nat} {a c : World} (h : Mut b a c) (n : Nat) : Mut b a (c.drewN n) := ⟨h.os, h.tape, h.output, h.size, h.block, h.fz⟩
theorem Mut.drew {b : Nat} {a c : World} (h : Mut b a c) : Mut b a c.drew := ⟨h.os, h.tape, h.output, h.size, h.block, h.fz⟩
theorem Mut.box {b : Nat} {W w1 : World} (h : Mut b W w1) {k o : Nat} {v : Value} (hk : k ≠ b) (hc : W.cell? ⟨k, o, none⟩ = some v) : w1.cell? ⟨k, o, none⟩ = some v := by
  have hb : k < W.heap.size := by
    by_cases e : k < W.heap.size
    · exact e
    · have e2 : W.heap[k]? = none := by simp; omega
      simp [World.cell?, e2] at hc
  rw [← hc]
  exact World.cell?_of_block (w := W) (a := ⟨k, o, none⟩) (h.block k hb hk)
theorem Mut.ext {b : Nat} {a c d : World} (h : Mut b c d) (x : Ext a c) (hb : a.heap.size ≤ b) : Ext a d :=
  ⟨x.bl.trans ⟨h.os, h.tape, h.output, h.size, fun k hk => h.block k (Nat.lt_of_lt_of_le hk x.bl.size) (by omega)⟩, fun y => (h.fz y).trans (x.fz y)⟩

/-- A source of draws lies in block b. -/
structure Src (w : World) (b : Nat) (sv : Value) (n : Nat) (at_ mix size : Int) : Prop where
  c0 : w.cell? ⟨b, 0, none⟩ = some sv
  c1 : w.cell? ⟨b, 1, none⟩ = some (.int .i64 at_)
  c2 : w.cell? ⟨b, 2, none⟩ = some (.int .i64 mix)
  c3 : w.cell? ⟨b, 3, none⟩ = some (.int .i64 size)
  fz : ∀ o, w.frozen? ⟨b, o, none⟩ = false
  at0 : 0 ≤ at_
  atn : at_ ≤ n
  nle : n ≤ 4000
  mix0 : 0 ≤ mix
  mix1 : mix < 1000003
  size0 : 1 ≤ size
  size1 : size ≤ 7
  code : (n = 0 ∧ sv = .slice none 0 0) ∨ ∃ g cap, sv = .slice (some ⟨g, 0, none⟩) n cap ∧ g ≠ b ∧ ∀ j, j < n → ∃ x : Int, w.cell? ⟨g, j, none⟩ = some (.int .u8 x) ∧ 0 ≤ x ∧ x < 256

theorem Src.keep {w w' : World} {b : Nat} {sv : Value} {n : Nat} {at_ mix size : Int} (h : Src w b sv n at_ mix size) (x : Ext w w') : Src w' b sv n at_ mix size := by
  refine ⟨x.box h.c0, x.box h.c1, x.box h.c2, x.box h.c3, fun o => (x.fz _).trans (h.fz o), h.at0, h.atn, h.nle, h.mix0, h.mix1, h.size0, h.size1, ?_⟩
  rcases h.code with hc | ⟨g, cap, h1, h2, h3⟩
  · exact Or.inl hc
  · refine Or.inr ⟨g, cap, h1, h2, fun j hj => ?_⟩
    obtain ⟨y, hy, hr⟩ := h3 j hj
    exact ⟨y, x.box hy, hr⟩

theorem Src.upd {w w' : World} {b : Nat} {sv : Value} {n : Nat} {at_ mix size : Int} (h : Src w b sv n at_ mix size) (m : Mut b w w') (at2 mix2 : Int)
    (c0 : w'.cell? ⟨b, 0, none⟩ = some sv) (c1 : w'.cell? ⟨b, 1, none⟩ = some (.int .i64 at2)) (c2 : w'.cell? ⟨b, 2, none⟩ = some (.int .i64 mix2)) (c3 : w'.cell? ⟨b, 3, none⟩ = some (.int .i64 size))
    (ha : 0 ≤ at2) (hb : at2 ≤ n) (hm : 0 ≤ mix2) (hm2 : mix2 < 1000003) : Src w' b sv n at2 mix2 size := by
  refine ⟨c0, c1, c2, c3, fun o => (m.fz _).trans (h.fz o), ha, hb, h.nle, hm, hm2, h.size0, h.size1, ?_⟩
  rcases h.code with hc | ⟨g, cap, h1, h2, h3⟩
  · exact Or.inl hc
  · refine Or.inr ⟨g, cap, h1, h2, fun j hj => ?_⟩
    obtain ⟨y, hy, hr⟩ := h3 j hj
    exact ⟨y, m.box h2 hy, hr⟩

/-- l1Next at most one: 0, nothing drawn. -/
theorem next_one (b : Nat) (m : Int) (hm : m ≤ 1) (w : World) :
    Calls Try.prog 65 #[.pointer (some ⟨b, 0, none⟩), .int .i64 m] w fun e w' => e = .returned (.int .i64 0) ∧ w' = w := by
  go_enter Try.func65, Try.ntmps65
  go_wp2
  go_ret
  exact ⟨rfl, rfl⟩

theorem next_byte (b : Nat) (m : Int) (hm : 1 < m) (hm2 : m ≤ 256) (g cap n : Nat) (at_ mix size x : Int) (w : World) (hn : n ≤ 4000) (hx0 : 0 ≤ x) (hx1 : x < 256)
    (c0 : w.cell? ⟨b, 0, none⟩ = some (.slice (some ⟨g, 0, none⟩) n cap)) (c1 : w.cell? ⟨b, 1, none⟩ = some (.int .i64 at_)) (fz : ∀ o, w.frozen? ⟨b, o, none⟩ = false)
    (ha : 0 ≤ at_) (hlt : at_ < n) (hc : w.cell? ⟨g, at_.toNat, none⟩ = some (.int .u8 x)) :
    Calls Try.prog 65 #[.pointer (some ⟨b, 0, none⟩), .int .i64 m] w fun e w' => e = .returned (.int .i64 (x % m)) ∧ ∃ k, w' = (w.setCell ⟨b, 1, none⟩ (.int .i64 (at_ + 1))).drewN k := by
  have d1 : decide (at_ < (n : Int)) = true := decide_eq_true hlt
  have d2 : decide (m ≤ 256) = true := decide_eq_true hm2
  go_enter Try.func65, Try.ntmps65
  go_wp2_with fail
  go_quiet (fail)
  go_wp2_with fail
  go_quiet (fail)
  go_wp2
  go_ret
  exact ⟨rfl, _, rfl⟩

theorem next_mix (b : Nat) (m : Int) (hm : 1 < m) (sv : Value) (n : Nat) (at_ mix size : Int) (w : World)
    (hs : (n = 0 ∧ sv = .slice none 0 0) ∨ ∃ g cap, sv = .slice (some ⟨g, 0, none⟩) n cap) (hn : n ≤ 4000)
    (c0 : w.cell? ⟨b, 0, none⟩ = some sv) (c1 : w.cell? ⟨b, 1, none⟩ = some (.int .i64 at_)) (c2 : w.cell? ⟨b, 2, none⟩ = some (.int .i64 mix)) (fz : ∀ o, w.frozen? ⟨b, o, none⟩ = false)
    (hor : ¬ (at_ < n ∧ m ≤ 256)) (hx0 : 0 ≤ mix) (hx1 : mix < 1000003) :
    Calls Try.prog 65 #[.pointer (some ⟨b, 0, none⟩), .int .i64 m] w fun e w' => e = .returned (.int .i64 ((mix * 1103 + 12347) % 1000003 / 3 % m)) ∧ ∃ k, w' = (w.setCell ⟨b, 2, none⟩ (.int .i64 ((mix * 1103 + 12347) % 1000003))).drewN k := by
  have hsl : ∃ a cap, sv = .slice a n cap := by
    rcases hs with ⟨h1, h2⟩ | ⟨g, cap, h⟩
    · exact ⟨none, 0, by rw [h2, h1]⟩
    · exact ⟨_, _, h⟩
  obtain ⟨a, cap, rfl⟩ := hsl
  clear hs
  by_cases h1 : at_ < (n : Int)
  · have h2 : ¬ m ≤ 256 := fun h => hor ⟨h1, h⟩
    have d1 : decide (at_ < (n : Int)) = true := decide_eq_true h1
    have d2 : decide (m ≤ 256) = false := decide_eq_false h2
    clear hor
    go_enter Try.func65, Try.ntmps65
    go_wp2_with fail
    go_quiet (fail)
    go_wp2
    go_ret
    exact ⟨rfl, _, rfl⟩
  · have d1 : decide (at_ < (n : Int)) = false := decide_eq_false h1
    clear hor
    go_enter Try.func65, Try.ntmps65
    go_wp2_with fail
    go_quiet (fail)
    go_wp2
    go_ret
    exact ⟨rfl, _, rfl⟩

/-- l1Next: a number below m (or 0); the source stays one. -/
theorem next_any {w : World} {b : Nat} {sv : Value} {n : Nat} {at_ mix size : Int} (h : Src w b sv n at_ mix size) (m : Int) :
    Calls Try.prog 65 #[.pointer (some ⟨b, 0, none⟩), .int .i64 m] w fun e w' => ∃ (v at2 mix2 : Int), e = .returned (.int .i64 v) ∧ (0 ≤ v ∧ (1 < m → v < m) ∧ (m ≤ 1 → v = 0)) ∧ Src w' b sv n at2 mix2 size ∧ Mut b w w' := by
  by_cases hm : m ≤ 1
  · refine (next_one b m hm w).mono ?_
    rintro e w' ⟨rfl, rfl⟩
    exact ⟨0, at_, mix, rfl, ⟨by omega, by omega, by omega⟩, h, Mut.refl _ _⟩
  by_cases hc : at_ < n ∧ m ≤ 256
  · rcases h.code with ⟨hn0, _⟩ | ⟨g, cap, hsv, hg, hb⟩
    · have := h.at0; omega
    · obtain ⟨x, hx, hx0, hx1⟩ := hb at_.toNat (by have := h.at0; omega)
      subst hsv
      refine (next_byte b m (by omega) hc.2 g cap n at_ mix size x w h.nle hx0 hx1 h.c0 h.c1 h.fz h.at0 hc.1 hx).mono ?_
      rintro e w' ⟨rfl, k, rfl⟩
      have hmm : Mut b w ((w.setCell ⟨b, 1, none⟩ (.int .i64 (at_ + 1))).drewN k) := ((Mut.refl b w).setCell 1 _).drewN k
      refine ⟨_, at_ + 1, mix, rfl, ⟨Int.emod_nonneg _ (by omega), fun h => Int.emod_lt_of_pos _ (by omega), fun h => by omega⟩, h.upd hmm _ _ ?_ ?_ ?_ ?_ (by have := h.at0; omega) (by omega) h.mix0 h.mix1, hmm⟩
      · simp [go_sem, h.c0]
      · simp [go_sem, h.c1]
      · simp [go_sem, h.c2]
      · simp [go_sem, h.c3]
  · refine (next_mix b m (by omega) sv n at_ mix size w (h.code.imp id fun ⟨g, cap, h1, _⟩ => ⟨g, cap, h1⟩) h.nle h.c0 h.c1 h.c2 h.fz hc h.mix0 h.mix1).mono ?_
    rintro e w' ⟨rfl, k, rfl⟩
    have hmm : Mut b w ((w.setCell ⟨b, 2, none⟩ (.int .i64 ((mix * 1103 + 12347) % 1000003))).drewN k) := ((Mut.refl b w).setCell 2 _).drewN k
    refine ⟨_, at_, (mix * 1103 + 12347) % 1000003, rfl, ⟨Int.emod_nonneg _ (by omega), fun h => Int.emod_lt_of_pos _ (by omega), fun h => by omega⟩, h.upd hmm _ _ ?_ ?_ ?_ ?_ h.at0 h.atn (by omega) (by omega), hmm⟩
    · simp [go_sem, h.c0]
    · simp [go_sem, h.c1]
    · simp [go_sem, h.c2]
    · simp [go_sem, h.c3]
end Go.Proofs.Ythaajmkfeniofaa
