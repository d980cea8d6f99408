import Derived.Test.YthaajmkfeniofaaApply
namespace Go.Proofs.Ythaajmkfeniofaa
open Go.RowKit FL
set_option linter.unusedSimpArgs false
set_option linter.unusedVariables false

def smB (ia : Int) (fa ga : Nat) (ib : Int) (fb gb : Nat) : Bool := (ia == ib) && (sameB fa fb && sameB ga gb)

theorem lwSame_any (ia ib : Int) (fa ga fb gb : Nat) (hfa : B64 fa) (hga : B64 ga) (hfb : B64 fb) (hgb : B64 gb) (w : World) :
    Calls Try.prog 29 #[.agg #[.int .i64 ia, .float .f64 fa, .float .f64 ga], .agg #[.int .i64 ib, .float .f64 fb, .float .f64 gb]] w fun e w' => e = .returned (.bool (smB ia fa ga ib fb gb)) ∧ Ext w w' := by
  unfold smB
  cases h1 : (ia == ib) <;> cases h2 : sameB fa fb
  all_goals
    go_enter Try.func29, Try.ntmps29
    go_wp2_with (go_at_call 62; refine (lwSameFloat_any _ _ ?_ ?_ _).mono ?_; assumption; assumption; rintro e w' ⟨rfl, rfl⟩)
    go_ret
    exact ⟨rfl, by repeat (first | with_reducible exact Ext.refl _ | with_reducible refine Ext.setCell ?_ (by simp; try omega) _ | with_reducible apply Ext.drewN | with_reducible apply Ext.drew | with_reducible apply Ext.alloc | refine Ext.trans ?_ (by assumption))⟩

theorem fbef_tri (a b : Nat) (ha : B64 a) (hb : B64 b) : (fbef a b = true ∧ fbef b a = false ∧ sameB a b = false) ∨ (fbef a b = false ∧ fbef b a = true ∧ sameB a b = false) ∨ (fbef a b = false ∧ fbef b a = false ∧ sameB a b = true) := by
  have key : ∀ x y, nanD x = false → nanD y = false → (flt x y = decide (keyD x < keyD y) ∧ feq x y = decide (keyD x = keyD y)) := fun x y hx hy => by unfold flt feq; rw [hx, hy]; simp
  cases na : nanD a <;> cases nb : nanD b
  · have k1 := key a b na nb
    have k2 := key b a nb na
    unfold fbef sameB
    rw [na, nb, k1.1, k1.2, k2.1, k2.2]
    unfold B64 at ha hb
    have e1 := keyD_eq a ha
    have e2 := keyD_eq b hb
    have m1 : mzB a = decide (a = 9223372036854775808) := rfl
    have m2 : mzB b = decide (b = 9223372036854775808) := rfl
    rw [m1, m2]
    by_cases c1 : keyD a < keyD b
    · left
      have c2 : ¬ keyD b < keyD a := by omega
      have c3 : ¬ keyD a = keyD b := by omega
      have c4 : ¬ keyD b = keyD a := by omega
      have c5 : ¬ a = b := fun e => by rw [e] at c3; exact c3 rfl
      simp [c1, c2, c3, c4, c5]
    · by_cases c2 : keyD b < keyD a
      · right; left
        have c3 : ¬ keyD a = keyD b := by omega
        have c4 : ¬ keyD b = keyD a := by omega
        have c5 : ¬ a = b := fun e => by rw [e] at c3; exact c3 rfl
        simp [c1, c2, c3, c4, c5]
      · have c3 : keyD a = keyD b := by omega
        rcases key_inj a b ha hb c3 with e | e | e
        · right; right; rw [e]; simp
        · right; left; rw [e.1, e.2]; decide
        · left; rw [e.1, e.2]; decide
  · left; unfold fbef sameB; rw [na, nb]; simp
  · right; left; unfold fbef sameB; rw [na, nb]; simp
  · right; right; unfold fbef sameB; rw [na, nb]; simp

theorem bef_tri (dt ia ib : Int) (fa ga fb gb : Nat) (hfa : B64 fa) (hga : B64 ga) (hfb : B64 fb) (hgb : B64 gb) (va : validB dt ia fa ga = true) (vb : validB dt ib fb gb = true) :
    (befB dt ia fa ga ib fb gb = true ∧ befB dt ib fb gb ia fa ga = false ∧ smB ia fa ga ib fb gb = false) ∨ (befB dt ia fa ga ib fb gb = false ∧ befB dt ib fb gb ia fa ga = true ∧ smB ia fa ga ib fb gb = false) ∨ (befB dt ia fa ga ib fb gb = false ∧ befB dt ib fb gb ia fa ga = false ∧ smB ia fa ga ib fb gb = true) := by
  have hd := valid_dt _ _ _ _ va
  unfold befB smB
  rw [va, vb]
  simp only [Bool.true_and]
  by_cases h6 : dt ≤ 6
  · rw [if_pos h6, if_pos h6]
    obtain ⟨_, _, rfl, rfl⟩ := valid_int _ _ _ _ va h6
    obtain ⟨_, _, rfl, rfl⟩ := valid_int _ _ _ _ vb h6
    rw [same_self]
    by_cases c1 : ia < ib
    · left; have c2 : ¬ ib < ia := by omega
      have c3 : ¬ ia = ib := by omega
      simp [c1, c2, c3]
    · by_cases c2 : ib < ia
      · right; left
        have c3 : ¬ ia = ib := by omega
        simp [c1, c2, c3]
      · right; right
        have c3 : ia = ib := by omega
        simp [c3]
  rw [if_neg h6, if_neg h6]
  by_cases h8 : dt ≤ 8
  · rw [if_pos h8, if_pos h8]
    obtain ⟨rfl, rfl⟩ := valid_flt _ _ _ _ va (by omega) h8
    obtain ⟨rfl, rfl⟩ := valid_flt _ _ _ _ vb (by omega) h8
    rw [same_self]
    simpa using fbef_tri fa fb hfa hfb
  rw [if_neg h8, if_neg h8]
  have h9 : dt = 9 := by omega
  subst h9
  have e1 := valid_cpx _ _ _ va
  have e2 := valid_cpx _ _ _ vb
  subst e1 e2
  unfold cbef
  rcases fbef_tri fa fb hfa hfb with ⟨p1, p2, p3⟩ | ⟨p1, p2, p3⟩ | ⟨p1, p2, p3⟩
  · left; rw [p1, p2, p3]; simp
  · right; left; rw [p1, p2, p3]; simp
  · rw [p1, p2, p3]
    rcases fbef_tri ga gb hga hgb with ⟨q1, q2, q3⟩ | ⟨q1, q2, q3⟩ | ⟨q1, q2, q3⟩
    · left; rw [q1, q2, q3]; simp
    · right; left; rw [q1, q2, q3]; simp
    · right; right; rw [q1, q2, q3]; simp

def mI (op dt ia ib : Int) : Int := if dt ≤ 6 then mmI op ia ib else 0
def mF (op dt : Int) (fa fb : Nat) : Nat := if dt ≤ 6 then 0 else endF op fa fb

theorem endF_lt (op : Int) (a b : Nat) (ha : B64 a) (hb : B64 b) : B64 (endF op a b) := by
  unfold endF
  split
  · unfold B64; omega
  · split <;> assumption
theorem mF_lt (op dt : Int) (a b : Nat) (ha : B64 a) (hb : B64 b) : B64 (mF op dt a b) := by
  unfold mF
  split
  · exact B64_0
  · exact endF_lt op a b ha hb

theorem ap_mm5 (dt ia ib : Int) (fa ga fb gb : Nat) (hia : I64 ia) (hfa : B64 fa) (hga : B64 ga) (hib : I64 ib) (hfb : B64 fb) (hgb : B64 gb) (h8 : dt ≤ 8) (va : validB dt ia fa ga = true) (vb : validB dt ib fb gb = true) (w : World) :
    Calls Try.prog 28 #[.int .i64 5, .int .i64 dt, .agg #[.int .i64 ia, .float .f64 fa, .float .f64 ga], .agg #[.int .i64 ib, .float .f64 fb, .float .f64 gb]] w fun e w' => e = .returned (.agg #[.int .i64 0, .int .i64 dt, .int .i64 (mI 5 dt ia ib), .float .f64 (mF 5 dt fa fb), .float .f64 0]) ∧ Ext w w' := by
  have hd := valid_dt _ _ _ _ va
  have hfit : fitO 5 dt = true := by unfold fitO; simp; omega
  refine ap_ok 5 dt ia ib fa ga fb gb hia hfa hga hib hfb hgb (by omega) hfit va vb _ _ (fun w => ?_) w
  by_cases h6 : dt ≤ 6
  · have ra := valid_int _ _ _ _ va h6
    have rb := valid_int _ _ _ _ vb h6
    have e1 : mI 5 dt ia ib = mmI 5 ia ib := by unfold mI; rw [if_pos h6]
    have e2 : mF 5 dt fa fb = 0 := by unfold mF; rw [if_pos h6]
    rw [e1, e2]
    have : dt = 1 ∨ dt = 2 ∨ dt = 3 ∨ dt = 4 ∨ dt = 5 ∨ dt = 6 := by omega
    rcases this with rfl | rfl | rfl | rfl | rfl | rfl
    · exact mmC1_5 ia ib fa ga fb gb ⟨ra.1, ra.2.1⟩ ⟨rb.1, rb.2.1⟩ w
    · exact mmC2_5 ia ib fa ga fb gb ⟨ra.1, ra.2.1⟩ ⟨rb.1, rb.2.1⟩ w
    · exact mmC3_5 ia ib fa ga fb gb ⟨ra.1, ra.2.1⟩ ⟨rb.1, rb.2.1⟩ w
    · exact mmC4_5 ia ib fa ga fb gb ⟨ra.1, ra.2.1⟩ ⟨rb.1, rb.2.1⟩ w
    · exact mmC5_5 ia ib fa ga fb gb ⟨ra.1, ra.2.1⟩ ⟨rb.1, rb.2.1⟩ w
    · exact mmC6_5 ia ib fa ga fb gb ⟨ra.1, ra.2.1⟩ ⟨rb.1, rb.2.1⟩ w
  · have e1 : mI 5 dt ia ib = 0 := by unfold mI; rw [if_neg h6]
    have e2 : mF 5 dt fa fb = endF 5 fa fb := by unfold mF; rw [if_neg h6]
    rw [e1, e2]
    have : dt = 7 ∨ dt = 8 := by omega
    rcases this with rfl | rfl
    · have sa : sngB fa = true := by simp [validB] at va; exact va.2
      have sb : sngB fb = true := by simp [validB] at vb; exact vb.2
      exact mmC7_5 ia ib fa ga fb gb hfa hfb sa sb w
    · exact mmC8_5 ia ib fa ga fb gb hfa hfb w

theorem ap_mm6 (dt ia ib : Int) (fa ga fb gb : Nat) (hia : I64 ia) (hfa : B64 fa) (hga : B64 ga) (hib : I64 ib) (hfb : B64 fb) (hgb : B64 gb) (h8 : dt ≤ 8) (va : validB dt ia fa ga = true) (vb : validB dt ib fb gb = true) (w : World) :
    Calls Try.prog 28 #[.int .i64 6, .int .i64 dt, .agg #[.int .i64 ia, .float .f64 fa, .float .f64 ga], .agg #[.int .i64 ib, .float .f64 fb, .float .f64 gb]] w fun e w' => e = .returned (.agg #[.int .i64 0, .int .i64 dt, .int .i64 (mI 6 dt ia ib), .float .f64 (mF 6 dt fa fb), .float .f64 0]) ∧ Ext w w' := by
  have hd := valid_dt _ _ _ _ va
  have hfit : fitO 6 dt = true := by unfold fitO; simp; omega
  refine ap_ok 6 dt ia ib fa ga fb gb hia hfa hga hib hfb hgb (by omega) hfit va vb _ _ (fun w => ?_) w
  by_cases h6 : dt ≤ 6
  · have ra := valid_int _ _ _ _ va h6
    have rb := valid_int _ _ _ _ vb h6
    have e1 : mI 6 dt ia ib = mmI 6 ia ib := by unfold mI; rw [if_pos h6]
    have e2 : mF 6 dt fa fb = 0 := by unfold mF; rw [if_pos h6]
    rw [e1, e2]
    have : dt = 1 ∨ dt = 2 ∨ dt = 3 ∨ dt = 4 ∨ dt = 5 ∨ dt = 6 := by omega
    rcases this with rfl | rfl | rfl | rfl | rfl | rfl
    · exact mmC1_6 ia ib fa ga fb gb ⟨ra.1, ra.2.1⟩ ⟨rb.1, rb.2.1⟩ w
    · exact mmC2_6 ia ib fa ga fb gb ⟨ra.1, ra.2.1⟩ ⟨rb.1, rb.2.1⟩ w
    · exact mmC3_6 ia ib fa ga fb gb ⟨ra.1, ra.2.1⟩ ⟨rb.1, rb.2.1⟩ w
    · exact mmC4_6 ia ib fa ga fb gb ⟨ra.1, ra.2.1⟩ ⟨rb.1, rb.2.1⟩ w
    · exact mmC5_6 ia ib fa ga fb gb ⟨ra.1, ra.2.1⟩ ⟨rb.1, rb.2.1⟩ w
    · exact mmC6_6 ia ib fa ga fb gb ⟨ra.1, ra.2.1⟩ ⟨rb.1, rb.2.1⟩ w
  · have e1 : mI 6 dt ia ib = 0 := by unfold mI; rw [if_neg h6]
    have e2 : mF 6 dt fa fb = endF 6 fa fb := by unfold mF; rw [if_neg h6]
    rw [e1, e2]
    have : dt = 7 ∨ dt = 8 := by omega
    rcases this with rfl | rfl
    · have sa : sngB fa = true := by simp [validB] at va; exact va.2
      have sb : sngB fb = true := by simp [validB] at vb; exact vb.2
      exact mmC7_6 ia ib fa ga fb gb hfa hfb sa sb w
    · exact mmC8_6 ia ib fa ga fb gb hfa hfb w

/-- What the law asks of the smaller and the larger one. -/
theorem mm_same (dt ia ib : Int) (fa ga fb gb : Nat) (hfa : B64 fa) (hfb : B64 fb) (h8 : dt ≤ 8) (va : validB dt ia fa ga = true) (vb : validB dt ib fb gb = true) (hn : (nanD fa || nanD fb) = false) :
    (befB dt ib fb gb ia fa ga = true → smB (mI 5 dt ia ib) (mF 5 dt fa fb) 0 ib fb gb = true ∧ smB (mI 6 dt ia ib) (mF 6 dt fa fb) 0 ia fa ga = true) ∧
    (befB dt ib fb gb ia fa ga = false → smB (mI 5 dt ia ib) (mF 5 dt fa fb) 0 ia fa ga = true ∧ smB (mI 6 dt ia ib) (mF 6 dt fa fb) 0 ib fb gb = true) := by
  unfold befB
  rw [va, vb]
  simp only [Bool.true_and]
  by_cases h6 : dt ≤ 6
  · obtain ⟨_, _, rfl, rfl⟩ := valid_int _ _ _ _ va h6
    obtain ⟨_, _, rfl, rfl⟩ := valid_int _ _ _ _ vb h6
    rw [if_pos h6]
    unfold smB mI mF
    simp only [if_pos h6, same_self, mmI_5, mmI_6, Bool.and_true, beq_iff_eq, decide_eq_true_eq, decide_eq_false_iff_not]
    omega
  · rw [if_neg h6, if_pos h8]
    obtain ⟨rfl, rfl⟩ := valid_flt _ _ _ _ va (by omega) h8
    obtain ⟨rfl, rfl⟩ := valid_flt _ _ _ _ vb (by omega) h8
    unfold smB mI mF
    simp only [if_neg h6, same_self, Bool.and_true]
    have e5 : endF 5 fa fb = if (fbef fa fb == true) = true then fa else fb := by unfold endF; rw [hn]; rfl
    have e6 : endF 6 fa fb = if (fbef fa fb == false) = true then fa else fb := by unfold endF; rw [hn]; rfl
    rw [e5, e6]
    rcases fbef_tri fa fb hfa hfb with ⟨p1, p2, p3⟩ | ⟨p1, p2, p3⟩ | ⟨p1, p2, p3⟩
    · rw [p1, p2]; simp [same_self]
    · rw [p1, p2]; simp [same_self]
    · rw [p1, p2]; simp [p3, same_symm p3]

theorem mm_nan (dt : Int) (fa fb : Nat) (h6 : ¬ dt ≤ 6) (hn : (nanD fa || nanD fb) = true) : feq (mF 5 dt fa fb) (mF 5 dt fa fb) = false ∧ feq (mF 6 dt fa fb) (mF 6 dt fa fb) = false := by
  unfold mF
  rw [if_neg h6, if_neg h6]
  unfold endF
  rw [hn, if_pos rfl, if_pos rfl]
  decide
end Go.Proofs.Ythaajmkfeniofaa
