import Derived.Test.YtccbffhjibigeaaMarkC
namespace Go.Proofs.Ytccbffhjibigeaa
open Go.ChangeShapes Go.RowKit FL
set_option linter.unusedSimpArgs false
set_option linter.unusedVariables false
theorem MIn.refl (lo hi : Nat) (w : World) (hl : lo ≤ w.heap.size) : MIn lo hi w w := (Ext.refl w).mIn hl
theorem MIn.tr {lo hi : Nat} {a b c : World} (x : MIn lo hi a b) (y : MIn lo hi b c) : MIn lo hi a c :=
  ⟨x.bl.trans y.bl, fun k o v hk hc => y.box k o v hk (x.box k o v hk hc), fun p => (y.fz p).trans (x.fz p)⟩
theorem mIn_set {lo hi b o : Nat} {w : World} (v : Value) (h1 : lo ≤ b) (h2 : b < hi) (hl : lo ≤ w.heap.size) : MIn lo hi w (w.setCell ⟨b, o, none⟩ v) := ((Mut.refl b w).setCell o v).mIn h1 h2 hl
/-- The stores' rows, whatever they hold. -/
def WRow (w : World) (lo hi b off : Nat) (ss : List St) : Prop := ∀ j, j < ss.length → (∃ x, w.cell? ⟨b, off + j * 2, none⟩ = some x) ∧ ∃ sa cap, w.cell? ⟨b, off + j * 2 + 1, none⟩ = some (.slice sa (ss.getD j s0).2.length cap) ∧ ((ss.getD j s0).2 = [] ∨ ∃ c o, sa = some ⟨c, o, none⟩ ∧ lo ≤ c ∧ c < hi ∧ Ex w c o (ss.getD j s0).2.length)
theorem SRowL.wrow {w : World} {lo b off : Nat} {ss : List St} (h : SRowL w lo b off ss) : WRow w lo w.heap.size b off ss := fun j hj => by
  obtain ⟨h1, u, h2, sa, cap, rfl, h3⟩ := h j hj
  refine ⟨⟨_, h1⟩, sa, cap, h2, ?_⟩
  rcases h3 with h3 | ⟨c, o, h4, h5, h6⟩
  · exact Or.inl h3
  · by_cases e : (ss.getD j s0).2 = []
    · exact Or.inl e
    · exact Or.inr ⟨c, o, h4, h5, cell_lt (h6 0 (List.length_pos_iff.2 e)).1, h6.ex⟩
theorem WRow.step {w w' : World} {lo hi b off : Nat} {ss : List St} (h : WRow w lo hi b off ss) (x : KE w w') (y : ∀ o v, o % 2 ≠ off % 2 → w.cell? ⟨b, o, none⟩ = some v → w'.cell? ⟨b, o, none⟩ = some v) : WRow w' lo hi b off ss := fun j hj => by
  obtain ⟨⟨u, h1⟩, sa, cap, h2, h3⟩ := h j hj
  refine ⟨x _ _ _ h1, sa, cap, y _ _ (by omega) h2, h3.imp id fun ⟨c, o, h4, h5, h6, h7⟩ => ⟨c, o, h4, h5, h6, h7.ke x⟩⟩

set_option maxRecDepth 100000 in
set_option maxHeartbeats 1000000 in
theorem markS_any {w : World} {lo hi b off cap : Nat} {ss : List St} (h : WRow w lo hi b off ss) (hb : b < lo) (hh : hi ≤ w.heap.size) (hbh : b < hi) (hf : ∀ c o, b ≤ c → c < hi → w.frozen? ⟨c, o, none⟩ = false) (hl : SL ss 1048576) (k : Int) (hk : 0 ≤ k ∧ k ≤ 1000) :
    Calls Try.prog 37 #[.slice (some ⟨b, off, none⟩) ss.length cap, .int .i64 k] w fun e w' => (∃ r : Int, e = .returned (.int .i64 r) ∧ 0 ≤ r ∧ r ≤ 1000 + 4194304 * 1048576) ∧ MIn b hi w w' := by
  have H := hide h
  have HF := hide hf
  have HL := hide hl
  have hl1 := hl.1
  clear h hf hl
  go_enter Try.func37, Try.ntmps37
  go_wp2
  go_loopw [1, 5] (fun m i wr => ∃ (j : Nat) (z : Int), i = .int .i64 j ∧ m = .int .i64 z ∧ j ≤ ss.length ∧ (0 ≤ z ∧ z ≤ 1000 + 4194304 * (j : Int)) ∧ WRow wr lo hi b off ss ∧ MIn b hi w wr) (fun m i _ => ss.length - (intOf i).toNat)
  case atStart => exact ⟨0, k, rfl, rfl, by omega, ⟨by omega, by omega⟩, H.out, MIn.refl _ _ _ (by omega)⟩
  case round =>
    obtain ⟨j, z, rfl, rfl, hj, hz, hr, hm⟩ := hrel
    have HR := hide hr
    have HM := hide hm
    clear hr hm
    by_cases hlt : j < ss.length
    · obtain ⟨⟨x0, q0⟩, sc, cc, q1, q2⟩ := HR.out j hlt
      have qf := fun o => (HM.out.fz ⟨b, o, none⟩).trans (HF.out b o (Nat.le_refl _) hbh)
      have hj0 : (0 : Int) ≤ (j : Int) := Int.natCast_nonneg _
      have hj1 : (j : Int) < (ss.length : Int) := by omega
      have hcl := HL.out.at j hlt
      have p1 : (wr.setCell ⟨b, off + j * 2, none⟩ (.int .i64 z)).cell? ⟨b, off + j * 2 + 1, none⟩ = _ := near (by omega) q1
      have hws := Below.size HM.out.bl
      have HW1 : Hid (WRow (wr.setCell ⟨b, off + j * 2, none⟩ (.int .i64 z)) lo hi b off ss) := HR.out.step ((KE.refl wr).set _ _) (fun o v ho hc => near (by omega) hc)
      have HM1 := hide (HM.out.tr (mIn_set (w := wr) (o := off + j * 2) (.int .i64 z) (Nat.le_refl b) hbh (by omega)))
      have HF1 : Hid (∀ c o, b ≤ c → c < hi → (wr.setCell ⟨b, off + j * 2, none⟩ (.int .i64 z)).frozen? ⟨c, o, none⟩ = false) := fun c o hc hc2 => (HM1.out.fz _).trans (HF.out c o hc hc2)
      have HE1 : Hid ((ss.getD j s0).2 = [] ∨ ∃ c o, sc = some ⟨c, o, none⟩ ∧ lo ≤ c ∧ c < hi ∧ Ex (wr.setCell ⟨b, off + j * 2, none⟩ (.int .i64 z)) c o (ss.getD j s0).2.length) := q2.imp id fun ⟨c, o, h4, h5, h6, h7⟩ => ⟨c, o, h4, h5, h6, h7.ke ((KE.refl wr).set _ _)⟩
      have hsz1 : b ≤ (wr.setCell ⟨b, off + j * 2, none⟩ (.int .i64 z)).heap.size := by have := cell_lt q0; simp [World.setCell]; omega
      clear q2
      generalize (ss.getD j s0).2 = cs at *
      go_wp2_with fail
      generalize wr.setCell ⟨b, off + j * 2, none⟩ (.int .i64 z) = W1 at *
      rcases HE1.out with h0 | ⟨c, o, rfl, h5, h6, h7⟩
      · subst h0
        refine (markC_nil (z + 1)).mono ?_
        rintro e w2 ⟨rfl, rfl⟩
        go_wp2
        go_roundw
        · exact ⟨j + 1, z + 1, by go_num, rfl, by omega, ⟨by omega, by push_cast; omega⟩, HW1.out, HM1.out⟩
        · simp [intOf]; omega
      · refine (markC_any h7 (fun o => HF1.out c o (by omega) h6) (z + 1) ⟨by omega, by omega⟩ hcl).mono ?_
        rintro e w2 ⟨rfl, _, hmu, hke⟩
        have HW2 := hide (HW1.out.step hke (fun o v _ hc => hmu.box (by omega) hc))
        have HM2 := hide (HM1.out.tr (hmu.mIn (lo := b) (hi := hi) (by omega) h6 hsz1))
        clear hmu hke
        go_wp2
        go_roundw
        · exact ⟨j + 1, _, by go_num, rfl, by omega, ⟨by omega, by push_cast; omega⟩, HW2.out, HM2.out⟩
        · simp [intOf]; omega
    · have hjj : j = ss.length := by omega
      subst hjj
      go_wp2
      go_ret
      exact ⟨⟨z, rfl, hz.1, by omega⟩, HM.out⟩
end Go.Proofs.Ytccbffhjibigeaa
