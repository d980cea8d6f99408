import Derived.Test.YtccbffhjibigeaaMarkA
import Derived.Test.YtccbffhjibigeaaRdTop
namespace Go.Proofs.Ytccbffhjibigeaa
open Go.ChangeShapes Go.RowKit FL
set_option linter.unusedSimpArgs false
set_option linter.unusedVariables false
theorem OwnC.cv {w : World} {lo cap : Nat} {sa : Option Addr} {cs : List C3} (h : OwnC w lo sa cs) : CV w (.slice sa cs.length cap) cs := by
  refine ⟨sa, cap, rfl, ?_⟩
  rcases h with h | ⟨g, h1, h2, h3, _⟩
  · exact Or.inl h
  · exact Or.inr ⟨g, 0, h1, h3⟩
theorem OwnC.keep {w w' : World} {lo : Nat} {sa : Option Addr} {cs : List C3} (h : OwnC w lo sa cs) (x : Bel w w') : OwnC w' lo sa cs := by
  by_cases e : cs = []
  · exact Or.inl e
  · rcases h with h | ⟨g, h1, h2, h3, h4⟩
    · exact absurd h e
    · have hg := cell_lt (h3 0 (List.length_pos_iff.2 e)).1
      exact Or.inr ⟨g, h1, h2, h3.keep x, fun o => (Below.frozen x (p := ⟨g, o, none⟩) hg).trans (h4 o)⟩
theorem OwnC.mIn {w w' : World} {lo a b : Nat} {sa : Option Addr} {cs : List C3} (h : OwnC w lo sa cs) (x : MIn a b w w') (hb : b ≤ lo) : OwnC w' lo sa cs := by
  rcases h with h | ⟨g, h1, h2, h3, h4⟩
  · exact Or.inl h
  · exact Or.inr ⟨g, h1, h2, fun j hj => ⟨x.box _ _ _ (by omega) (h3 j hj).1, x.box _ _ _ (by omega) (h3 j hj).2.1, x.box _ _ _ (by omega) (h3 j hj).2.2⟩, fun o => (x.fz _).trans (h4 o)⟩
theorem Bel.mIn {w w1 w2 : World} {a b : Nat} (x : Bel w w1) (y : MIn a b w1 w2) (h : w.heap.size ≤ a) : Bel w w2 := Below.trans x (Below.mono y.bl h)
theorem readA_len (ss : List St) (st : Int) (xs sv : List Int) (off : Int) : (readA ss st xs sv off).length ≤ 1048576 := by
  unfold readA
  split
  · next h =>
    unfold readL
    rw [List.length_map]
    have := offs_len h.2.2.1
    omega
  · simp
theorem readA_good {ss : List St} (hg : SG ss) (st : Int) (xs sv : List Int) (off : Int) : CG (readA ss st xs sv off) := fun c hc => by
  unfold readA at hc
  split at hc
  · next h =>
    unfold readL at hc
    obtain ⟨p, hp, rfl⟩ := List.mem_map.1 hc
    have h1 := (offs_in h.2.2.1 p hp).1
    have h2 := h.2.2.2 p hp
    have h3 := h.2.1
    exact (hg.at st.toNat (by omega)).at p.toNat (by omega)
  · cases hc
theorem markG_any {w : World} {lo cap : Nat} {sa : Option Addr} {cs : List C3} (h : OwnC w lo sa cs) (hl : cs.length ≤ 1048576) (hlo : lo ≤ w.heap.size) :
    Calls Try.prog 21 #[.slice sa cs.length cap, .int .i64 1] w fun e w' => e = .returned (.int .i64 (1 + 3 * cs.length)) ∧ CV w' (.slice sa cs.length cap) (ccount cs.length 1) ∧ Below lo w w' := by
  rcases h with rfl | ⟨g, rfl, h2, h3, h4⟩
  · refine (markC_nil 1).mono ?_
    rintro e w' ⟨rfl, rfl⟩
    exact ⟨rfl, ⟨sa, cap, rfl, Or.inl rfl⟩, Below.refl _ _⟩
  · refine (markC_any h3.ex h4 1 (by omega) hl).mono ?_
    rintro e w' ⟨rfl, hr, hm, _⟩
    exact ⟨rfl, ⟨_, cap, by rw [ccount_len], Or.inr ⟨g, 0, rfl, hr⟩⟩, ⟨hm.os, hm.tape, hm.output, hm.size, fun k hk => hm.block k (by omega) (by omega)⟩⟩
end Go.Proofs.Ytccbffhjibigeaa
