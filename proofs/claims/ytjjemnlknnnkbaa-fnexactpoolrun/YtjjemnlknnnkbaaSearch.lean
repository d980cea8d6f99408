import Derived.Test.YtjjemnlknnnkbaaMarks
namespace Go.Proofs.Ytjjemnlknnnkbaa
open Go.ChangeShapes Go.RowKit
set_option linter.unusedSimpArgs false
set_option linter.unusedVariables false

set_option maxHeartbeats 800000 in
theorem nan61 (x : Int) (w : World) : Calls Try.prog 61 #[.int .i64 x] w fun e w' => e = .returned (.bool false) ∧ w' = w := by
  go_enter Try.func61, Try.ntmps61
  go_wp2
  go_ret
  exact ⟨by simp, rfl⟩
set_option maxHeartbeats 800000 in
theorem nan56 (x : Int) (w : World) : Calls Try.prog 56 #[.int .i64 x] w fun e w' => e = .returned (.bool false) ∧ w' = w := by
  go_enter Try.func56, Try.ntmps56
  go_wp2
  go_ret
  exact ⟨by simp, rfl⟩
set_option maxHeartbeats 800000 in
theorem less_any (x y : Int) (w : World) : Calls Try.prog 55 #[.int .i64 x, .int .i64 y] w fun e w' => e = .returned (.bool (decide (x < y))) ∧ w' = w := by
  go_enter Try.func55, Try.ntmps55
  go_wp2_with (go_at_call 61; refine (nan61 _ _).mono ?_; rintro e w' ⟨rfl, rfl⟩)
  go_ret
  exact ⟨rfl, rfl⟩

/-- Where t goes. -/
structure Goes (L : List Int) (t : Int) (p : Nat) : Prop where
  le : p ≤ L.length
  lo : ∀ k, k < p → L.getD k 0 < t
  hi : ∀ k, p ≤ k → k < L.length → t ≤ L.getD k 0

def SrOk (w : World) (L : List Int) (t : Int) (e : Ending) (w' : World) : Prop := (∃ (p : Nat) (b : Bool), e = .returned (.tuple #[.int .i64 p, .bool b]) ∧ Goes L t p) ∧ Ext w w'

set_option maxRecDepth 100000 in
set_option maxHeartbeats 1000000 in
theorem search_any {w : World} {v : Value} {L : List Int} (h : Ints w v L) (hl : L.length ≤ 2000) (hs : ∀ a b, a < b → b < L.length → L.getD a 0 < L.getD b 0) (t : Int) :
    Calls Try.prog 51 #[v, .int .i64 t] w fun e w' => SrOk w L t e w' := by
  obtain ⟨sa, cap, rfl, hr⟩ := h
  have HR := hide hr
  clear hr
  go_enter Try.func51, Try.ntmps51
  go_wp2_with fail
  go_loopw [7, 8] (fun i j W => ∃ a b : Nat, i = .int .i64 a ∧ j = .int .i64 b ∧ a ≤ b ∧ b ≤ L.length ∧ Hid (∀ k, k < a → L.getD k 0 < t) ∧ Hid (∀ k, b ≤ k → k < L.length → t ≤ L.getD k 0) ∧ Ext w W) (fun i j _ => (intOf j).toNat - (intOf i).toNat)
  case atStart => exact ⟨0, L.length, rfl, rfl, by omega, by omega, fun k hk => absurd hk (Nat.not_lt_zero _), fun k h1 h2 => absurd h2 (by omega), Ext.refl w⟩
  case round =>
    obtain ⟨a, b, rfl, rfl, hab, hb, hA, hB, hX⟩ := hrel
    have HX := hide hX
    clear hX
    by_cases hlt : a < b
    · have ha0 : (0 : Int) ≤ (a : Int) := Int.natCast_nonneg _
      have hab1 : (a : Int) < (b : Int) := by omega
      obtain ⟨m, hm⟩ : ∃ m : Nat, (a + b) / 2 = m := ⟨_, rfl⟩
      have hmi : ((a : Int) + (b : Int)) / 2 = (m : Int) := by omega
      have hml : m < L.length := by omega
      have hm0 : (0 : Int) ≤ (m : Int) := Int.natCast_nonneg _
      have hm1 : (m : Int) < (L.length : Int) := by omega
      have hbi : (b : Int) ≤ 2000 := by omega
      rcases HR.out with h0 | ⟨bb, off, rfl, hrow⟩
      · rw [h0] at hml; simp at hml
      have q0 := HX.out.box (hrow m hml)
      clear hrow
      have Hlo : Hid (L.getD m 0 < t → ∀ k, k < m + 1 → L.getD k 0 < t) := fun h k hk => by
        by_cases e : k = m
        · rw [e]; exact h
        · have := hs k m (by omega) hml; omega
      have Hhi : Hid (¬ L.getD m 0 < t → ∀ k, m ≤ k → k < L.length → t ≤ L.getD k 0) := fun h k h1 h2 => by
        by_cases e : k = m
        · rw [e]; omega
        · have := hs m k (by omega) h2; omega
      have Hm := hide hm
      clear hm
      generalize L.getD m 0 = x at q0 Hlo Hhi
      by_cases hx : x < t
      · have H1 := hide (Hlo.out hx)
        have hd : decide (x < t) = true := decide_eq_true hx
        clear Hlo Hhi
        go_wp2_with (go_at_call 55; refine (less_any _ _ _).mono ?_; rintro e w' ⟨rfl, rfl⟩)
        go_roundw
        · exact ⟨m + 1, b, by go_num, rfl, by have := Hm.out; omega, hb, H1, hB, HX.out⟩
        · simp [intOf]; have := Hm.out; omega
      · have H1 := hide (Hhi.out hx)
        have hd : decide (x < t) = false := decide_eq_false hx
        clear Hlo Hhi
        go_wp2_with (go_at_call 55; refine (less_any _ _ _).mono ?_; rintro e w' ⟨rfl, rfl⟩)
        go_roundw
        · exact ⟨a, m, rfl, rfl, by have := Hm.out; omega, by omega, hA, H1, HX.out⟩
        · simp [intOf]; have := Hm.out; omega
    · have hab2 : a = b := by omega
      subst hab2
      have HG : Hid (Goes L t a) := ⟨hb, hA.out, hB.out⟩
      have hnn : ¬ (a : Int) < (a : Int) := by omega
      by_cases hal : a < L.length
      · have hal1 : (a : Int) < (L.length : Int) := by omega
        have ha0 : (0 : Int) ≤ (a : Int) := Int.natCast_nonneg _
        rcases HR.out with h0 | ⟨bb, off, rfl, hrow⟩
        · rw [h0] at hal; simp at hal
        have q0 := HX.out.box (hrow a hal)
        clear hrow
        generalize L.getD a 0 = x at q0
        by_cases hxt : x = t
        · subst hxt
          go_wp2_with (go_at_call 56; refine (nan56 _ _).mono ?_; rintro e w' ⟨rfl, rfl⟩)
          refine bodyPost_ret (results_tmp2 rfl _ _ _) rfl ?_
          exact ⟨⟨a, _, rfl, HG.out⟩, HX.out⟩
        · have hxb : (x == t) = false := by simp [hxt]
          go_wp2_with (go_at_call 56; refine (nan56 _ _).mono ?_; rintro e w' ⟨rfl, rfl⟩)
          refine bodyPost_ret (results_tmp2 rfl _ _ _) rfl ?_
          exact ⟨⟨a, _, rfl, HG.out⟩, HX.out⟩
      · have hal1 : ¬ (a : Int) < (L.length : Int) := by omega
        go_wp2_with (go_at_call 56; refine (nan56 _ _).mono ?_; rintro e w' ⟨rfl, rfl⟩)
        refine bodyPost_ret (results_tmp2 rfl _ _ _) rfl ?_
        exact ⟨⟨a, _, rfl, HG.out⟩, HX.out⟩
end Go.Proofs.Ytjjemnlknnnkbaa
