import Derived.Test.YthaajmkfeniofaaFloats2
namespace Go.Proofs.Ythaajmkfeniofaa
namespace FL
open Ieee
set_option linter.unusedSimpArgs false
set_option linter.unusedVariables false

def nanD (x : Nat) : Bool := nanW double x
def nanS (x : Nat) : Bool := nanW single x
def keyD (x : Nat) : Int := keyW double x
def feq (x y : Nat) : Bool := !nanD x && !nanD y && decide (keyD x = keyD y)
def flt (x y : Nat) : Bool := !nanD x && !nanD y && decide (keyD x < keyD y)

theorem dW : double.signWeight = 9223372036854775808 := by decide
theorem dI : double.infRung = 9218868437227405312 := by decide
theorem dB : double.binade = 4503599627370496 := by decide
theorem dL : double.leastPlace = -1074 := by decide
theorem sW : single.signWeight = 2147483648 := by decide
theorem sI : single.infRung = 2139095040 := by decide
theorem sB : single.binade = 8388608 := by decide
theorem sL : single.leastPlace = -149 := by decide
theorem dBI : double.binade ≤ double.infRung := by decide
theorem sBI : single.binade ≤ single.infRung := by decide

theorem nanD_iff (x : Nat) : nanD x = true ↔ 9218868437227405312 < x % 9223372036854775808 := by
  unfold nanD nanW; rw [dW, dI]; simp
theorem nanS_iff (x : Nat) : nanS x = true ↔ 2139095040 < x % 2147483648 := by
  unfold nanS nanW; rw [sW, sI]; simp
theorem keyD_eq (x : Nat) (h : x < 18446744073709551616) : keyD x = if x < 9223372036854775808 then (x : Int) else 9223372036854775808 - (x : Int) := by
  unfold keyD keyW; rw [dW]
  simp only [beq_iff_eq]
  split <;> split <;> omega

theorem order_feq (x y : Nat) : (double.order x y == some .eq) = feq x y := by
  unfold feq
  cases hx : nanD x
  · cases hy : nanD y
    · rw [order_key double dBI x y hx hy]
      by_cases h : keyW double x = keyW double y
      · rw [cmp_eq h]; simp [keyD, h]
      · by_cases h2 : keyW double x < keyW double y
        · rw [cmp_lt h2]; simp [keyD, h]
        · rw [cmp_gt (by omega)]; simp [keyD, h]
    · rw [order_nan_right double dBI x y hy]; simp
  · rw [order_nan_left double dBI x y hx]; simp

theorem order_flt (x y : Nat) : (double.order x y == some .lt) = flt x y := by
  unfold flt
  cases hx : nanD x
  · cases hy : nanD y
    · rw [order_key double dBI x y hx hy]
      by_cases h : keyW double x = keyW double y
      · rw [cmp_eq h]; simp [keyD, h]
      · by_cases h2 : keyW double x < keyW double y
        · rw [cmp_lt h2]; simp [keyD, h2]
        · rw [cmp_gt (by omega)]; simp [keyD, h2]
    · rw [order_nan_right double dBI x y hy]; simp
  · rw [order_nan_left double dBI x y hx]; simp

theorem order_fgt (x y : Nat) : (double.order x y == some .gt) = flt y x := by
  unfold flt
  cases hx : nanD x
  · cases hy : nanD y
    · rw [order_key double dBI x y hx hy]
      by_cases h : keyW double x = keyW double y
      · rw [cmp_eq h]; simp [keyD, h]
      · by_cases h2 : keyW double x < keyW double y
        · have h3 : ¬ keyW double y < keyW double x := by omega
          rw [cmp_lt h2]; simp [keyD, h3]
        · have h3 : keyW double y < keyW double x := by omega
          rw [cmp_gt h3]; simp [keyD, h3, hx, hy]
    · rw [order_nan_right double dBI x y hy]; simp
  · rw [order_nan_left double dBI x y hx]; simp

theorem feq_self (x : Nat) : feq x x = !nanD x := by unfold feq; cases nanD x <;> simp

theorem key_inj (a b : Nat) (ha : a < 18446744073709551616) (hb : b < 18446744073709551616) (h : keyD a = keyD b) : a = b ∨ (a = 0 ∧ b = 9223372036854775808) ∨ (a = 9223372036854775808 ∧ b = 0) := by
  rw [keyD_eq a ha, keyD_eq b hb] at h
  split at h <;> split at h <;> omega

/-! ### single and double -/
def narrow (x : Nat) : Nat := single.write (double.read x)
def wide (u : Nat) : Nat := double.write (single.read u)
def over (x : Nat) : Bool := match double.read x with
  | .number .. => (single.read (narrow x)).isInfinity
  | _ => false
def sngB (x : Nat) : Bool := nanD x || (!over x && wide (narrow x) == x)

theorem mag_lt (F : Format) (r : Nat) : magR F r < 2 ^ (F.fractionBits + 1) := by
  have hb := binade_pos F
  have hm := Nat.mod_lt r hb
  have hb2 : F.binade = 2 ^ F.fractionBits := rfl
  unfold magR
  rw [Nat.pow_succ]
  split <;> omega

theorem upR_le (F : Format) (r n : Nat) (h : r < (n + 1) * F.binade) (hn : 0 < n) : upR F r ≤ n - 1 := by
  have hb := binade_pos F
  unfold upR
  split
  · omega
  · have : r / F.binade < n + 1 := (Nat.div_lt_iff_lt_mul hb).2 h
    omega

/-- A finite single that is not zero: what it is as a double, and back. -/
theorem wide_finite (u : Nat) (hu : u < 4294967296) (h0 : 0 < u % 2147483648) (h : u % 2147483648 < 2139095040) :
    ∃ r, 0 < r ∧ r < double.infRung ∧ wide u = double.word (u / 2147483648 % 2 == 1) r ∧ narrow (wide u) = u := by
  have hr := read_finite single u (by rw [sW, sI]; exact h)
  rw [sW] at hr
  have hup := upR_le single (u % 2147483648) 254 (by rw [sB]; omega) (by omega)
  have hml := mag_lt single (u % 2147483648)
  have hmp := mag_pos single _ h0
  have hf : (2 : Nat) ^ (single.fractionBits + 1) = 16777216 := by decide
  have hf2 : (2 : Nat) ^ (double.fractionBits + 1) = 9007199254740992 := by decide
  rw [hf] at hml
  generalize hneg : (u / 2147483648 % 2 == 1) = neg at *
  obtain ⟨r, k, hr0, hri, hk, hpk, hn, hrd⟩ := write_read double neg (magR single (u % 2147483648)) (single.leastPlace + (upR single (u % 2147483648) : Nat)) hmp (by rw [hf2]; omega)
    (by rw [dL, sL]; omega) (by rw [dL, sL, dB, dI]; omega)
  refine ⟨r, hr0, hri, ?_, ?_⟩
  · unfold wide; rw [hr]; exact hn
  · unfold narrow wide
    rw [hr]
    show single.write (double.read (double.nearest _ _ _)) = u
    rw [hrd]
    show single.nearest _ _ _ = u
    rw [nearest_up single neg (u % 2147483648) k h0 (by rw [sI]; exact h)]
    have := word_of single u (by rw [sW]; omega)
    rw [sW, hneg] at this
    exact this

theorem wide_zero (u : Nat) (hu : u < 4294967296) (h0 : u % 2147483648 = 0) : wide u = double.word (u / 2147483648 % 2 == 1) 0 ∧ narrow (wide u) = u := by
  have : u = 0 ∨ u = 2147483648 := by omega
  rcases this with rfl | rfl <;> decide

theorem wide_inf (u : Nat) (hu : u < 4294967296) (h0 : u % 2147483648 = 2139095040) : wide u = double.word (u / 2147483648 % 2 == 1) double.infRung ∧ narrow (wide u) = u := by
  have : u = 2139095040 ∨ u = 4286578688 := by omega
  rcases this with rfl | rfl <;> decide

theorem wide_lt (u : Nat) : wide u < 18446744073709551616 := double.write_lt _
theorem narrow_lt (u : Nat) : narrow u < 4294967296 := single.write_lt _

theorem word_cases (neg : Bool) (r : Nat) (h : r < 9223372036854775808) : double.word neg r % 9223372036854775808 = r := by
  have := (word_mod double neg r (by rw [dW]; exact h)).1
  rw [dW] at this; exact this

theorem wide_narrow (u : Nat) (hu : u < 4294967296) (hn : nanS u = false) : narrow (wide u) = u ∧ nanD (wide u) = false := by
  have hn' : ¬ 2139095040 < u % 2147483648 := fun h => by rw [(nanS_iff u).2 h] at hn; cases hn
  have key : ∀ x : Nat, x % 9223372036854775808 ≤ 9218868437227405312 → nanD x = false := fun x h => by
    cases e : nanD x
    · rfl
    · have := (nanD_iff x).1 e; omega
  by_cases h0 : u % 2147483648 = 0
  · have := wide_zero u hu h0
    refine ⟨this.2, key _ ?_⟩
    rw [this.1, word_cases _ _ (by omega)]; omega
  · by_cases hi : u % 2147483648 = 2139095040
    · have := wide_inf u hu hi
      refine ⟨this.2, key _ ?_⟩
      rw [this.1, word_cases _ _ (by rw [dI]; omega), dI]; omega
    · obtain ⟨r, h1, h2, h3, h4⟩ := wide_finite u hu (by omega) (by omega)
      rw [dI] at h2
      refine ⟨h4, key _ ?_⟩
      rw [h3, word_cases _ _ (by omega)]; omega

theorem over_wide (u : Nat) (hu : u < 4294967296) (hn : nanS u = false) : over (wide u) = false := by
  have hn' : ¬ 2139095040 < u % 2147483648 := fun h => by rw [(nanS_iff u).2 h] at hn; cases hn
  have hw := (wide_narrow u hu hn).1
  by_cases hi : u % 2147483648 = 2139095040
  · have : u = 2139095040 ∨ u = 4286578688 := by omega
    rcases this with rfl | rfl <;> decide
  · unfold over
    rw [hw, read_finite single u (by rw [sW, sI]; omega)]
    split <;> rfl

theorem nanS_narrow (x : Nat) (hx : nanD x = false) : nanS (narrow x) = false := by
  have hx' : ¬ 9218868437227405312 < x % 9223372036854775808 := fun h => by rw [(nanD_iff x).2 h] at hx; cases hx
  have key : ∀ y : Nat, y % 2147483648 ≤ 2139095040 → nanS y = false := fun y h => by
    cases e : nanS y
    · rfl
    · have := (nanS_iff y).1 e; omega
  have word : ∀ neg r, r ≤ 2139095040 → single.word neg r % 2147483648 ≤ 2139095040 := fun neg r h => by
    have := (word_mod single neg r (by rw [sW]; omega)).1
    rw [sW] at this; omega
  apply key
  unfold narrow
  by_cases hi : x % 9223372036854775808 = 9218868437227405312
  · rw [read_inf double x (by rw [dW, dI]; exact hi) dBI]
    show single.word _ single.infRung % _ ≤ _
    exact word _ _ (by rw [sI]; omega)
  · rw [read_finite double x (by rw [dW, dI]; omega)]
    show single.nearest _ _ _ % _ ≤ _
    unfold Format.nearest
    split
    · exact word _ _ (by omega)
    · refine word _ _ ?_
      rw [← sI]; exact Nat.min_le_right _ _

def SingleR (x r : Nat) : Prop :=
  r < 18446744073709551616 ∧ ((nanD x = true ∧ nanD r = true) ∨ (nanD x = false ∧ ∃ u, u < 4294967296 ∧ (over x = true ∨ u = narrow x) ∧ ((nanS u = true ∧ nanD r = true) ∨ (nanS u = false ∧ r = wide u))))

theorem singR_same {x r : Nat} (h : SingleR x r) (hs : sngB x = true) : (nanD x = true ∧ nanD r = true) ∨ (nanD x = false ∧ r = x) := by
  rcases h.2 with h1 | ⟨h1, u, hu, h2, h3⟩
  · exact Or.inl h1
  · right
    unfold sngB at hs
    simp only [h1, Bool.false_or, Bool.and_eq_true, Bool.not_eq_true', beq_iff_eq] at hs
    rcases h2 with h2 | h2
    · rw [hs.1] at h2; cases h2
    · rcases h3 with h3 | h3
      · rw [h2, nanS_narrow x h1] at h3; cases h3.1
      · exact ⟨h1, by rw [h3.2, h2, hs.2]⟩

theorem singR_not {x r : Nat} (hx : x < 18446744073709551616) (h : SingleR x r) (hs : sngB x = false) : nanD x = false ∧ feq r x = false := by
  unfold sngB at hs
  simp only [Bool.or_eq_false_iff] at hs
  refine ⟨hs.1, ?_⟩
  rcases h.2 with h1 | ⟨h1, u, hu, h2, h3⟩
  · rw [hs.1] at h1; cases h1.1
  · rcases h3 with h3 | h3
    · unfold feq; rw [h3.2]; rfl
    · cases e : feq r x
      · rfl
      · unfold feq at e
        simp only [Bool.and_eq_true, decide_eq_true_eq] at e
        have hi := key_inj r x h.1 hx e.2
        have hz : x = 0 ∨ x = 9223372036854775808 → False := by
          intro hz
          have : (!over x && wide (narrow x) == x) = true := by rcases hz with rfl | rfl <;> decide
          rw [this] at hs; cases hs.2
        have hrx : r = x := by
          rcases hi with hi | hi | hi
          · exact hi
          · exact (hz (Or.inr hi.2)).elim
          · exact (hz (Or.inl hi.2)).elim
        have hxw : x = wide u := by rw [← hrx]; exact h3.2
        have : (!over x && wide (narrow x) == x) = true := by
          rw [hxw, over_wide u hu h3.1, (wide_narrow u hu h3.1).1]; simp
        rw [this] at hs; cases hs.2

theorem singR_sng {x r : Nat} (h : SingleR x r) : sngB r = true := by
  have hw : ∀ u, u < 4294967296 → nanS u = false → sngB (wide u) = true := fun u hu hn => by
    unfold sngB
    rw [over_wide u hu hn, (wide_narrow u hu hn).1]; simp
  have hnan : nanD r = true → sngB r = true := fun e => by unfold sngB; rw [e]; rfl
  rcases h.2 with h1 | ⟨h1, u, hu, h2, h3⟩
  · exact hnan h1.2
  · rcases h3 with h3 | h3
    · exact hnan h3.2
    · rw [h3.2]; exact hw u hu h3.1

/-! ### minus one times -/
def flip (x : Nat) : Nat := if x < 9223372036854775808 then x + 9223372036854775808 else x - 9223372036854775808

theorem flip_word (x : Nat) (hx : x < 18446744073709551616) : double.word (!(x / 9223372036854775808 % 2 == 1)) (x % 9223372036854775808) = flip x := by
  unfold Format.word flip
  rw [dW]
  by_cases h : x < 9223372036854775808
  · have e : x / 9223372036854775808 % 2 = 0 := by omega
    rw [if_pos h, e]; simp; omega
  · have e : x / 9223372036854775808 % 2 = 1 := by omega
    rw [if_neg h, e]; simp; omega

theorem neg_mul (x : Nat) (hx : x < 18446744073709551616) (hn : nanD x = false) : double.mul 13830554455654793216 x = some (flip x) := by
  have hx' : ¬ 9218868437227405312 < x % 9223372036854775808 := fun h => by rw [(nanD_iff x).2 h] at hn; cases hn
  have hone : double.read 13830554455654793216 = .number true 4503599627370496 (-52) := by decide
  unfold Format.mul
  rw [hone, ← flip_word x hx]
  by_cases hi : x % 9223372036854775808 = 9218868437227405312
  · rw [read_inf double x (by rw [dW, dI]; exact hi) dBI, dW, hi]
    show some (double.word _ double.infRung) = _
    rw [dI]; cases (x / 9223372036854775808 % 2 == 1) <;> rfl
  · rw [read_finite double x (by rw [dW, dI]; omega), dW]
    show some (double.nearest _ _ _) = _
    congr 1
    by_cases h0 : x % 9223372036854775808 = 0
    · have hm : magR double (x % 9223372036854775808) = 0 := by rw [h0]; decide
      rw [hm, Nat.mul_zero, nearest_zero, h0]
      cases (x / 9223372036854775808 % 2 == 1) <;> rfl
    · have := nearest_up double (!(x / 9223372036854775808 % 2 == 1)) (x % 9223372036854775808) 52 (by omega) (by rw [dI]; omega)
      rw [← this]
      have e1 : (true ^^ (x / 9223372036854775808 % 2 == 1)) = !(x / 9223372036854775808 % 2 == 1) := by cases (x / 9223372036854775808 % 2 == 1) <;> rfl
      rw [e1, Nat.mul_comm]
      congr 1
      omega
end FL
end Go.Proofs.Ythaajmkfeniofaa
