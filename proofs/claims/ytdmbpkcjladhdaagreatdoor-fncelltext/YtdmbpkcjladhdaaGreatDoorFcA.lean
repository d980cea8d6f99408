import Derived.Lib.ItoaNum
import Derived.Lib.ParseIntB
import Derived.Lib.IndexMore
namespace Go.Proofs.YtdmbpkcjladhdaaGreatDoor

/-- A digit's byte. -/
theorem dig_nat (u : Nat) (h : u < 10) : (UInt8.ofNat (48 + u)).toNat = 48 + u := by
  rw [UInt8.toNat_ofNat']; simp; omega

theorem parse_cons (M acc : Nat) (c : UInt8) (r : List UInt8) : Lib.parseUintM M acc (c :: r) = if 48 ≤ c.toNat ∧ c.toNat ≤ 57 then (if 1844674407370955162 ≤ acc then .range else if M < acc * 10 + (c.toNat - 48) then .range else Lib.parseUintM M (acc * 10 + (c.toNat - 48)) r) else .syntax := by
  conv => lhs; unfold Lib.parseUintM
/-- Digits are read on. -/
theorem parse_app (M acc : Nat) (l r : List UInt8) (u : Nat) (h : Lib.parseUintM M acc l = .ok u) : Lib.parseUintM M acc (l ++ r) = Lib.parseUintM M u r := by
  induction l generalizing acc with
  | nil => simp [Lib.parseUintM] at h; rw [List.nil_append, h]
  | cons c l ih =>
    rw [List.cons_append, parse_cons]
    rw [parse_cons] at h
    split at h
    · rename_i h1
      rw [if_pos h1]
      split at h
      · cases h
      · rename_i h2
        rw [if_neg h2]
        split at h
        · cases h
        · rename_i h3
          rw [if_neg h3]
          exact ih _ h
    · cases h

theorem parse_digits (M : Nat) (hM : M = 18446744073709551615) : ∀ n u : Nat, u ≤ n → u ≤ M → Lib.parseUintM M 0 (Lib.decDigits u) = .ok u := by
  intro n
  induction n with
  | zero =>
    intro u h hm
    have : u = 0 := by omega
    subst this
    rw [Lib.decDigits_one (by omega)]
    unfold Lib.parseUintM
    rw [dig_nat 0 (by omega), if_pos (by omega), if_neg (by omega), if_neg (by omega)]
    rfl
  | succ n ih =>
    intro u h hm
    by_cases h1 : u < 10
    · rw [Lib.decDigits_one h1]
      unfold Lib.parseUintM
      rw [dig_nat u h1, if_pos (by omega), if_neg (by omega), if_neg (by omega)]
      unfold Lib.parseUintM
      congr 1; omega
    · rw [Lib.decDigits, dif_neg h1, parse_app M 0 _ _ _ (ih (u / 10) (by omega) (by omega))]
      unfold Lib.parseUintM
      rw [dig_nat (u % 10) (by omega), if_pos (by omega), if_neg (by omega), if_neg (by omega)]
      unfold Lib.parseUintM
      congr 1; omega

theorem dig_all (u : Nat) : ∀ b ∈ Lib.decDigits u, 48 ≤ b.toNat ∧ b.toNat ≤ 57 := by
  induction u using Nat.strongRecOn with
  | ind u ih =>
    intro b hb
    by_cases h1 : u < 10
    · rw [Lib.decDigits_one h1] at hb
      simp only [List.mem_singleton] at hb
      subst hb
      rw [dig_nat u h1]; omega
    · rw [Lib.decDigits, dif_neg h1] at hb
      rcases List.mem_append.1 hb with hb | hb
      · exact ih (u / 10) (by omega) b hb
      · simp only [List.mem_singleton] at hb
        subst hb
        rw [dig_nat (u % 10) (by omega)]; omega

theorem dig_ne (u : Nat) : Lib.decDigits u ≠ [] := by
  intro h
  have := Lib.decDigits_length u
  rw [h] at this
  have h2 := Lib.nDigits_pos u
  simp at this; omega

/-- The first digit of a number that is not 0 is not 0. -/
theorem dig_head (u : Nat) : 0 < u → ∀ b r, Lib.decDigits u = b :: r → 49 ≤ b.toNat := by
  induction u using Nat.strongRecOn with
  | ind u ih =>
    intro hu b r hb
    by_cases h1 : u < 10
    · rw [Lib.decDigits_one h1] at hb
      injection hb with hb1 hb2
      subst hb1
      rw [dig_nat u h1]; omega
    · rw [Lib.decDigits, dif_neg h1] at hb
      cases hq : Lib.decDigits (u / 10) with
      | nil => exact absurd hq (dig_ne _)
      | cons c t =>
        rw [hq] at hb
        rw [List.cons_append] at hb
        injection hb with hb1 hb2
        subst hb1
        exact ih (u / 10) (by omega) (by omega) c t hq

theorem parse_itoa (n : Int) (h0 : -9223372036854775808 ≤ n) (h1 : n ≤ 9223372036854775807) : Lib.parseIntB 64 (Lib.itoa n) = .ok n := by
  have hM : (2 : Nat) ^ 64 - 1 = 18446744073709551615 := by decide
  have h63 : (2 : Nat) ^ (64 - 1) = 9223372036854775808 := by decide
  unfold Lib.itoa
  by_cases hn : n < 0
  · rw [if_pos hn]
    unfold Lib.parseIntB
    have e45 : (45 : UInt8).toNat = 45 := rfl
    simp only [e45]
    rw [if_pos (by decide)]
    unfold Lib.parseUintB
    rw [if_neg (dig_ne _), hM, parse_digits _ rfl _ _ (Nat.le_refl _) (by omega)]
    simp only [h63]
    rw [if_neg (by simp), if_neg (by simp; omega), if_pos trivial]
    congr 1; omega
  · rw [if_neg hn]
    cases hd : Lib.decDigits n.toNat with
    | nil => exact absurd hd (dig_ne _)
    | cons c r =>
      have hc := dig_all n.toNat c (by rw [hd]; simp)
      unfold Lib.parseIntB
      simp only
      rw [if_neg (by omega)]
      unfold Lib.parseUintB
      rw [if_neg (by simp), hM, ← hd, parse_digits _ rfl _ _ (Nat.le_refl _) (by omega)]
      simp only [h63]
      rw [if_neg (by omega), if_neg (by omega), if_neg (by omega)]
      congr 1; omega

/-- The bytes of a numeral. -/
theorem itoa_bytes (n : Int) : ∀ b ∈ Lib.itoa n, (48 ≤ b.toNat ∧ b.toNat ≤ 57) ∨ b = 45 := by
  intro b hb
  unfold Lib.itoa at hb
  split at hb
  · rcases List.mem_cons.1 hb with hb | hb
    · exact Or.inr hb
    · exact Or.inl (dig_all _ b hb)
  · exact Or.inl (dig_all _ b hb)

/-- A text is cut where the byte is met first. -/
theorem index_one (A B : List UInt8) (p : UInt8) (h : p ∉ A) : Lib.index (A ++ p :: B) [p] = A.length := by
  induction A with
  | nil => simp [Lib.index, List.isPrefixOf]
  | cons a A ih =>
    have h1 : p ≠ a := fun e => h (by rw [e]; simp)
    have h2 : p ∉ A := fun e => h (List.mem_cons_of_mem _ e)
    rw [List.cons_append]
    unfold Lib.index
    have e1 : [p].isPrefixOf (a :: (A ++ p :: B)) = false := by simp [List.isPrefixOf, h1]
    rw [e1, if_neg (by decide), ih h2]
    have e2 : ((A.length : Int) == -1) = false := by rw [beq_eq_false_iff_ne]; omega
    rw [e2, if_neg (by decide)]
    simp
theorem cut_one (A B : List UInt8) (p : UInt8) (h : p ∉ A) : Lib.cut (A ++ p :: B) [p] = (A, B, true) := by
  unfold Lib.cut
  rw [index_one A B p h, if_pos (by omega)]
  simp
theorem cut_none (A : List UInt8) (p : UInt8) (h : p ∉ A) : Lib.cut A [p] = (A, [], false) := by
  have : Lib.index A [p] = -1 := by
    induction A with
    | nil => rfl
    | cons a A ih =>
      have h1 : p ≠ a := fun e => h (by rw [e]; simp)
      have h2 : p ∉ A := fun e => h (List.mem_cons_of_mem _ e)
      unfold Lib.index
      have e1 : [p].isPrefixOf (a :: A) = false := by simp [List.isPrefixOf, h1]
      rw [e1, if_neg (by decide), ih h2]
      rfl
  unfold Lib.cut
  rw [this, if_neg (by decide)]
end Go.Proofs.YtdmbpkcjladhdaaGreatDoor
