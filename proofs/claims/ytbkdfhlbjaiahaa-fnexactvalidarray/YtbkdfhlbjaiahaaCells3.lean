import Derived.Test.YtbkdfhlbjaiahaaCells2
namespace Go.Proofs.Ytbkdfhlbjaiahaa
open Go.RowKit FL
set_option linter.unusedSimpArgs false
set_option linter.unusedVariables false

theorem same_zero (f : Nat) (h : B64 f) : sameB f 0 = pzB f := by
  unfold B64 at h
  unfold sameB pzB
  rw [nan_zero]
  cases e : nanD f
  · simp
  · have := (nanD_iff f).1 e
    have h0 : f ≠ 0 := by omega
    simp [h0]
theorem same_self (f : Nat) : sameB f f = true := by
  unfold sameB; cases nanD f <;> simp
theorem same_single (f r : Nat) (hf : B64 f) (h : SingleR f r) : sameB r f = sngB f := by
  cases hs : sngB f
  · have h1 := singR_not hf h hs
    unfold sameB
    rw [h1.1]
    cases hr : nanD r
    · have : r ≠ f := fun e => by
        have h2 := h1.2
        rw [e, feq_self, h1.1] at h2; cases h2
      simp [this]
    · simp
  · rcases singR_same h hs with ⟨h1, h2⟩ | ⟨h1, h2⟩
    · unfold sameB; rw [h1, h2]; rfl
    · rw [h2]; exact same_self f
theorem B64_single {f r : Nat} (h : SingleR f r) : B64 r := h.1
theorem B64_0 : B64 0 := by unfold B64; omega

set_option maxHeartbeats 1000000 in
theorem sValid_int (dt i : Int) (f g : Nat) (h : 1 ≤ dt ∧ dt ≤ 6) (hf : B64 f) (hg : B64 g) (w : World) :
    Calls Try.prog 25 #[.int .i64 dt, .agg #[.int .i64 i, .float .f64 f, .float .f64 g]] w fun e w' => e = .returned (.bool (rngB dt i && pzB f && pzB g)) ∧ Ext w w' := by
  have hd : isDtB dt = true := by unfold isDtB; simp; omega
  have hb0 := B64_0
  have sf := same_zero f hf
  have sg := same_zero g hg
  have hk : skindL dt = 0 ∨ skindL dt = 1 := by unfold skindL; omega
  have hr : rngB dt i = (decide (lowL dt ≤ i) && decide (i ≤ highL dt)) := by
    unfold rngB
    rw [Bool.eq_iff_iff]; simp
  rw [hr]
  clear hr h
  rcases hk with hk | hk
  all_goals
    by_cases h0 : lowL dt ≤ i <;> by_cases h1 : i ≤ highL dt <;> cases h2 : pzB f
    all_goals
      rw [h2] at sf
      first | rw [decide_eq_true h0] | rw [decide_eq_false h0]
      first | rw [decide_eq_true h1] | rw [decide_eq_false h1]
      first | have d0 : decide (lowL dt ≤ i) = true := decide_eq_true h0 | (have d0 : decide (lowL dt ≤ i) = false := decide_eq_false h0)
      first | have d1 : decide (i ≤ highL dt) = true := decide_eq_true h1 | (have d1 : decide (i ≤ highL dt) = false := decide_eq_false h1)
      go_enter Try.func25, Try.ntmps25
      go_wp2_with (first | (go_at_call 24; refine (l1IsDType_any _ _).mono ?_; rintro e w' ⟨rfl, rfl⟩) | (go_at_call 40; refine (l1Kind_any _ _).mono ?_; rintro e w' ⟨rfl, rfl⟩))
      go_quiet (first | (go_at_call 41; exact Calls.quiet_of_same (l1Low_any _ _)) | (go_at_call 42; exact Calls.quiet_of_same (l1High_any _ _)) | (go_at_call 43; exact Calls.quiet_of_same (l1SameFloat_any _ _ (by assumption) (by assumption) _)))
      go_wp2
      go_ret
      exact ⟨rfl, by repeat (first | exact Ext.refl _ | apply Ext.drewN | apply Ext.drew | apply Ext.alloc)⟩

set_option maxHeartbeats 1000000 in
theorem sValid_f64 (i : Int) (f g : Nat) (hf : B64 f) (hg : B64 g) (w : World) :
    Calls Try.prog 25 #[.int .i64 8, .agg #[.int .i64 i, .float .f64 f, .float .f64 g]] w fun e w' => e = .returned (.bool (i == 0 && pzB g)) ∧ Ext w w' := by
  have hd : isDtB 8 = true := by decide
  have hk : skindL 8 = 2 := by decide
  have hb0 := B64_0
  have sg := same_zero g hg
  have sf := same_self f
  cases h0 : (i == 0) <;> cases h2 : pzB g <;> rw [h2] at sg
  all_goals
    go_enter Try.func25, Try.ntmps25
    go_wp2_with (first | (go_at_call 24; refine (l1IsDType_any _ _).mono ?_; rintro e w' ⟨rfl, rfl⟩) | (go_at_call 40; refine (l1Kind_any _ _).mono ?_; rintro e w' ⟨rfl, rfl⟩))
    go_quiet (first | (go_at_call 44; exact Calls.quiet_of_same (l1RoundN _ (by decide) _ _)) | (go_at_call 43; exact Calls.quiet_of_same (l1SameFloat_any _ _ (by assumption) (by assumption) _)))
    go_wp2
    go_ret
    exact ⟨rfl, by repeat (first | exact Ext.refl _ | apply Ext.drewN | apply Ext.drew | apply Ext.alloc)⟩

set_option maxHeartbeats 1000000 in
theorem sValid_f32 (i : Int) (f g : Nat) (hf : B64 f) (hg : B64 g) (w : World) :
    Calls Try.prog 25 #[.int .i64 7, .agg #[.int .i64 i, .float .f64 f, .float .f64 g]] w fun e w' => e = .returned (.bool (i == 0 && pzB g && sngB f)) ∧ Ext w w' := by
  have hd : isDtB 7 = true := by decide
  have hk : skindL 7 = 2 := by decide
  have hb0 := B64_0
  have sg := same_zero g hg
  cases h0 : (i == 0) <;> cases h2 : pzB g <;> rw [h2] at sg
  case true.true =>
    go_enter Try.func25, Try.ntmps25
    go_wp2_with (first | (go_at_call 24; refine (l1IsDType_any _ _).mono ?_; rintro e w' ⟨rfl, rfl⟩) | (go_at_call 40; refine (l1Kind_any _ _).mono ?_; rintro e w' ⟨rfl, rfl⟩))
    go_region_with (first | (go_at_call 44; refine (l1Round7 _ ?_ _).mono ?_; assumption; rintro e w' ⟨r, n, rfl, hr, rfl⟩; have hrb := B64_single hr; have sr := same_single _ _ hf hr) | (go_at_call 43; refine (l1SameFloat_any _ _ ?_ ?_ _).mono ?_; assumption; assumption; rintro e w' ⟨rfl, rfl⟩))
    all_goals go_wp2
    all_goals go_ret
    all_goals go_light
    all_goals exact ⟨ret_bool (by simp_all), by repeat (first | exact Ext.refl _ | apply Ext.drewN | apply Ext.drew | apply Ext.alloc)⟩
  all_goals
    go_enter Try.func25, Try.ntmps25
    go_wp2_with (first | (go_at_call 24; refine (l1IsDType_any _ _).mono ?_; rintro e w' ⟨rfl, rfl⟩) | (go_at_call 40; refine (l1Kind_any _ _).mono ?_; rintro e w' ⟨rfl, rfl⟩))
    go_quiet (first | (go_at_call 43; exact Calls.quiet_of_same (l1SameFloat_any _ _ (by assumption) (by assumption) _)))
    go_wp2
    go_ret
    exact ⟨rfl, by repeat (first | exact Ext.refl _ | apply Ext.drewN | apply Ext.drew | apply Ext.alloc)⟩

set_option maxHeartbeats 1000000 in
theorem sValid_c128 (i : Int) (f g : Nat) (w : World) :
    Calls Try.prog 25 #[.int .i64 9, .agg #[.int .i64 i, .float .f64 f, .float .f64 g]] w fun e w' => e = .returned (.bool (i == 0)) ∧ Ext w w' := by
  have hd : isDtB 9 = true := by decide
  have hk : skindL 9 = 3 := by decide
  go_enter Try.func25, Try.ntmps25
  go_wp2_with (first | (go_at_call 24; refine (l1IsDType_any _ _).mono ?_; rintro e w' ⟨rfl, rfl⟩) | (go_at_call 40; refine (l1Kind_any _ _).mono ?_; rintro e w' ⟨rfl, rfl⟩))
  go_ret
  exact ⟨rfl, by repeat (first | exact Ext.refl _ | apply Ext.drewN | apply Ext.drew | apply Ext.alloc)⟩

theorem sValid_no (dt i : Int) (f g : Nat) (h : ¬ (1 ≤ dt ∧ dt ≤ 9)) (w : World) :
    Calls Try.prog 25 #[.int .i64 dt, .agg #[.int .i64 i, .float .f64 f, .float .f64 g]] w fun e w' => e = .returned (.bool false) ∧ Ext w w' := by
  have hd : isDtB dt = false := by unfold isDtB; simpa using h
  clear h
  go_enter Try.func25, Try.ntmps25
  go_wp2_with (first | (go_at_call 24; refine (l1IsDType_any _ _).mono ?_; rintro e w' ⟨rfl, rfl⟩) | (go_at_call 40; refine (l1Kind_any _ _).mono ?_; rintro e w' ⟨rfl, rfl⟩))
  go_ret
  exact ⟨rfl, by repeat (first | exact Ext.refl _ | apply Ext.drewN | apply Ext.drew | apply Ext.alloc)⟩

theorem sValid_any (dt i : Int) (f g : Nat) (hf : B64 f) (hg : B64 g) (w : World) :
    Calls Try.prog 25 #[.int .i64 dt, .agg #[.int .i64 i, .float .f64 f, .float .f64 g]] w fun e w' => e = .returned (.bool (validB dt i f g)) ∧ Ext w w' := by
  by_cases h2 : 1 ≤ dt ∧ dt ≤ 6
  · have e : validB dt i f g = (rngB dt i && pzB f && pzB g) := by unfold validB; rw [if_pos (by omega)]
    rw [e]; exact sValid_int dt i f g h2 hf hg w
  by_cases h7 : dt = 7
  · subst h7; exact sValid_f32 i f g hf hg w
  by_cases h8 : dt = 8
  · subst h8; exact sValid_f64 i f g hf hg w
  by_cases h9 : dt = 9
  · subst h9; exact sValid_c128 i f g w
  have e : validB dt i f g = false := by unfold validB; rw [if_neg (by omega), if_neg h7, if_neg h8, if_neg h9]
  rw [e]; exact sValid_no dt i f g (by omega) w
end Go.Proofs.Ytbkdfhlbjaiahaa
