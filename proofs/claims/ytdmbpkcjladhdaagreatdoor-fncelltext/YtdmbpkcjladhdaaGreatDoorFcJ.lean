import Derived.Test.YtdmbpkcjladhdaaGreatDoorFcI
import Derived.Test.YtdmbpkcjladhdaaGreatDoorLwO
namespace Go.Proofs.YtdmbpkcjladhdaaGreatDoor
open Go.RowKit FL Ieee
set_option linter.unusedSimpArgs false
set_option linter.unusedVariables false

theorem POk.mono {good : Bool} {R S : Int → Nat → Nat → Prop} {w w' : World} {e : Ending} (h : POk good R w e w') (k : ∀ i f g, R i f g → S i f g) : POk good S w e w' := by
  obtain ⟨i, f, g, h1, h2, h3⟩ := h
  exact ⟨i, f, g, h1, k i f g h2, h3⟩

theorem rdF_B64 (x : Nat) (hx : B64 x) : B64 (rdF x) := by
  unfold rdF; split
  · unfold B64; omega
  · exact hx
theorem rdF_same (x : Nat) : sameB (rdF x) x = true := by
  unfold rdF
  by_cases h : nanD x = true
  · rw [if_pos h]
    have : nanD 9221120237041090561 = true := by decide
    unfold sameB; rw [h, this]; rfl
  · rw [if_neg h]; exact same_self x
theorem pz_of {g : Nat} (h : pzB g = true) : g = 0 := by unfold pzB at h; simpa using h

theorem no_comma_f (x : Nat) (hx : B64 x) : (44 : UInt8) ∉ fltT x := by
  rcases fltT_word x hx with ⟨g1, g2⟩ | ⟨g1, neg, r, g3, g4, g5, g6⟩
  · rw [g2]
    unfold wordT
    split
    · decide
    · split
      · decide
      · split
        · decide
        · split
          · decide
          · split
            · decide
            · decide
  · rw [g6]
    unfold posT
    intro h
    rcases List.mem_append.1 h with h | h
    · cases neg
      · simp at h
      · simp at h
    · rcases List.mem_append.1 h with h | h
      · rcases List.mem_append.1 h with h | h
        · exact no_comma _ h
        · simp at h
      · exact no_comma _ h

/-- What is read is the cell again. -/
def Again (i : Int) (f g : Nat) (i' : Int) (f' g' : Nat) : Prop := smB i' f' g' i f g = true ∧ B64 f' ∧ B64 g' ∧ I64 i'

theorem parseCell_valid (dt i : Int) (f g : Nat) (hi : I64 i) (hf : B64 f) (hg : B64 g) (hv : validB dt i f g = true) (m : Int) (w : World) (hm : w.cell? ⟨2, 0, none⟩ = some (.int .i64 m)) :
    Calls Tryz.prog 19 #[.int .i64 dt, str (cellT dt i f g)] w fun e w' => POk true (Again i f g) w e w' := by
  have hd := valid_dt dt i f g hv
  have i0 : I64 0 := by unfold I64; omega
  unfold cellT
  by_cases h2 : kindL dt = 2
  · rw [if_pos h2]
    have h78 : dt = 7 ∨ dt = 8 := by unfold kindL at h2; omega
    have hz : i = 0 ∧ g = 0 ∧ (dt = 7 → sngB f = true) := by
      unfold validB at hv
      rw [if_neg (by omega)] at hv
      rcases h78 with rfl | rfl
      · rw [if_pos rfl] at hv
        simp only [Bool.and_eq_true, beq_iff_eq] at hv
        exact ⟨hv.1.1, pz_of hv.1.2, fun _ => hv.2⟩
      · rw [if_neg (by omega), if_pos rfl] at hv
        simp only [Bool.and_eq_true, beq_iff_eq] at hv
        exact ⟨hv.1, pz_of hv.2, fun h => by omega⟩
    refine (pc_flt dt h78 (fltT f) (rdF f) (rdF_B64 f hf) true m w hm (fun w hm => parseFloat_any f hf m w hm)).mono ?_
    intro e w' h
    refine h.mono ?_
    rintro i' f' g' ⟨rfl, rfl, h3⟩
    obtain ⟨rfl, rfl, hs⟩ := hz
    rcases h3 with ⟨_, rfl⟩ | ⟨h7, hS⟩
    · refine ⟨?_, rdF_B64 f hf, B64_0, i0⟩
      unfold smB; rw [rdF_same, same_self]; rfl
    · refine ⟨?_, hS.1, B64_0, i0⟩
      have hsame : sameB f' f = true := by
        have hsn := hs h7
        by_cases hn : nanD f = true
        · have hr : rdF f = 9221120237041090561 := by unfold rdF; rw [if_pos hn]
          rw [hr] at hS
          rcases hS.2 with ⟨_, h1⟩ | ⟨h1, _⟩
          · unfold sameB; rw [h1, hn]; rfl
          · have : nanD 9221120237041090561 = true := by decide
            rw [this] at h1; cases h1
        · have hr : rdF f = f := by unfold rdF; rw [if_neg hn]
          rw [hr] at hS
          rcases singR_same hS hsn with ⟨h1, _⟩ | ⟨_, h1⟩
          · exact absurd h1 hn
          · rw [h1]; exact same_self f
      unfold smB; rw [hsame, same_self]; rfl
  · rw [if_neg h2]
    by_cases h3 : kindL dt = 3
    · rw [if_pos h3]
      have h9 : dt = 9 := by unfold kindL at h3; omega
      subst h9
      have hz : i = 0 := by
        unfold validB at hv
        rw [if_neg (by omega), if_neg (by omega), if_neg (by omega), if_pos rfl] at hv
        simpa using hv
      subst hz
      have lf := fltT_len f hf
      have lg := fltT_len g hg
      have ec : fltT f ++ [44] ++ fltT g = fltT f ++ 44 :: fltT g := by simp
      rw [ec]
      refine (pc_cpx (fltT f ++ 44 :: fltT g) (fltT f) (fltT g) true (by simp; omega) (cut_one _ _ _ (no_comma_f f hf)) (rdF f) (rdF g) true m w hm (fun w hm => parseFloat_any f hf m w hm) (fun w hm => parseFloat_any g hg m w hm)).mono ?_
      intro e w' h
      refine h.mono ?_
      rintro i' f' g' ⟨rfl, rfl, rfl⟩
      refine ⟨?_, rdF_B64 f hf, rdF_B64 g hg, i0⟩
      unfold smB; rw [rdF_same, rdF_same]; rfl
    · rw [if_neg h3]
      have h16 : 1 ≤ dt ∧ dt ≤ 6 := by unfold kindL at h2 h3; omega
      have hz : f = 0 ∧ g = 0 := by
        unfold validB at hv
        rw [if_pos h16] at hv
        simp only [Bool.and_eq_true] at hv
        exact ⟨pz_of hv.1.2, pz_of hv.2⟩
      obtain ⟨rfl, rfl⟩ := hz
      refine (pc_int dt h2 h3 (Lib.itoa i) i hi hv w (fun w => parseInt_any i hi w)).mono ?_
      intro e w' h
      refine h.mono ?_
      rintro i' f' g' ⟨rfl, rfl, rfl⟩
      refine ⟨?_, B64_0, B64_0, hi⟩
      unfold smB; rw [same_self, beq_self_eq_true]; rfl

theorem parseCell_empty (dt : Int) (m : Int) (w : World) (hm : w.cell? ⟨2, 0, none⟩ = some (.int .i64 m)) :
    Calls Tryz.prog 19 #[.int .i64 dt, str []] w fun e w' => POk false (fun _ _ _ => True) w e w' := by
  by_cases h2 : kindL dt = 2
  · have h78 : dt = 7 ∨ dt = 8 := by unfold kindL at h2; omega
    exact (pc_flt dt h78 [] 0 B64_0 false m w hm (fun w hm => pf_empty m w hm)).mono fun e w' h => h.mono fun _ _ _ _ => trivial
  · by_cases h3 : kindL dt = 3
    · have h9 : dt = 9 := by unfold kindL at h3; omega
      subst h9
      exact (pc_cpx [] [] [] false (by decide) (cut_none [] 44 (by decide)) 0 0 false m w hm (fun w hm => pf_empty m w hm) (fun w hm => pf_empty m w hm)).mono fun e w' h => h.mono fun _ _ _ _ => trivial
    · exact pc_none dt h2 h3 [] w parseInt_empty

end Go.Proofs.YtdmbpkcjladhdaaGreatDoor
