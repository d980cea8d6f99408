import Derived.Test.YtjjemnlknnnkbaaCrew
namespace Go.Proofs.Ytjjemnlknnnkbaa
open Go.ChangeShapes Go.RowKit Go.MuLone
set_option linter.unusedSimpArgs false
set_option linter.unusedVariables false

theorem tmod_twice (p : Int) (n : Nat) (hn : 1 ≤ n) : Int.tmod (Int.tmod p n + n) n = (((p.emod n).toNat : Nat) : Int) := by
  have h1 : p.emod (n : Int) < (n : Int) := Int.emod_lt_of_pos _ (by omega)
  have h2 : 0 ≤ p.emod (n : Int) := Int.emod_nonneg _ (by omega)
  have e := Int.tmod_eq_emod (a := p) (b := (n : Int))
  have e3 : p % (n : Int) = p.emod n := rfl
  rw [e3] at e
  obtain ⟨r, hr⟩ : ∃ r : Nat, p.emod (n : Int) = (r : Int) := ⟨(p.emod n).toNat, by omega⟩
  rw [hr] at e h1 h2 ⊢
  rw [Int.toNat_natCast]
  split at e
  · rw [show Int.tmod p n = (r : Int) from by rw [e]; exact Int.sub_zero _, show (r : Int) + (n : Int) = ((r + n : Nat) : Int) by omega, tmod_nat, Nat.add_mod_right, Nat.mod_eq_of_lt (by omega)]
  · rw [e, show (r : Int) - ((n : Int).natAbs : Int) + (n : Int) = ((r : Nat) : Int) by omega, tmod_nat, Nat.mod_eq_of_lt (by omega)]

theorem mod_small {a n : Nat} (h : a < 2 * n) : a % n = if a < n then a else a - n := by
  split
  · next h1 => exact Nat.mod_eq_of_lt h1
  · next h1 => rw [Nat.mod_eq_sub_mod (by omega), Nat.mod_eq_of_lt (by omega)]
theorem dist {y n i i0 : Nat} (hy : y < n) (hi0 : i0 < n) (hi : i ≤ i0) : ((y + i0) % n + n - (y + i) % n) % n = i0 - i := by
  have h1 := mod_small (a := y + i0) (n := n) (by omega)
  have h2 := mod_small (a := y + i) (n := n) (by omega)
  have h3 : ((y + i0) % n + n - (y + i) % n) < 2 * n ∨ (y + i0) % n + n - (y + i) % n = 2 * n := by
    rw [h1, h2]; split <;> split <;> omega
  rcases h3 with h3 | h3
  · rw [mod_small h3, h1, h2]
    split <;> split <;> split <;> omega
  · exfalso
    rw [h1, h2] at h3
    split at h3 <;> split at h3 <;> omega
theorem next_mod (y i n : Nat) : ((y + i) % n + 1) % n = (y + (i + 1)) % n := by
  rw [Nat.mod_add_mod, Nat.add_assoc]

set_option maxRecDepth 100000 in
set_option maxHeartbeats 1000000 in
theorem next_any {b : Nat} {next tiles : Int} {n : Nat} {held : List Int} (w : World) (h : Crew w b next tiles n held) (hl : held.length = n) (hn : 1 ≤ n ∧ n ≤ 64) (hm : ∀ j, j < n → -1 ≤ held.getD j 0) (hnt : next ≤ tiles) (hs : next = tiles → ∃ j, j < n ∧ 0 ≤ held.getD j 0) (p : Int) :
    Calls Try.prog 36 #[.pointer (some ⟨b, 0, none⟩), .int .i64 p] w fun e w' => e = .returned (.int .i64 (seek held n (decide (next < tiles)) (p.emod n).toNat)) ∧ Crew w' b next tiles n held ∧ Mut b w w' := by
  have hbd := tmod_bd p n hn
  have htw := tmod_twice p n hn.1
  have hne : ¬ (n : Int) = 0 := by omega
  have hnb : ((n : Int) == 0) = false := by rw [beq_eq_false_iff_ne]; exact hne
  have hnm : ((n : Int) == -1) = false := by rw [beq_eq_false_iff_ne]; omega
  have HY := hide (pick_lt p n hn.1)
  generalize (p.emod n).toNat = y at htw HY ⊢
  have c4 := h.c4
  have H := hide h
  clear h
  go_enter Try.func36, Try.ntmps36
  go_wp2_with fail
  go_region
  all_goals go_wp2_with fail
  clear htw hbd
  have HN := hide hs
  clear hs
  by_cases hq : next = tiles
  · obtain ⟨i0, hi0, hat, hbe⟩ := first_reach HY.out (HN.out hq)
    have Hr : Hid (seek held n (decide (next < tiles)) y = (y + i0) % n) := by
      show seek held n (decide (next < tiles)) y = (y + i0) % n
      rw [decide_eq_false (by omega)]
      exact seek_at hi0 hat hbe
    have Hat := hide hat
    have Hbe := hide hbe
    have hde : decide (next = tiles) = true := decide_eq_true hq
    clear hat hbe HN
    go_loopw [5] (fun v wr => ∃ i : Nat, v = .int .i64 ((y + i) % n : Nat) ∧ i ≤ i0 ∧ Crew wr b next tiles n held ∧ Mut b w wr) (fun v wr => ((y + i0) % n + n - (intOf v).toNat) % n)
    case atStart => exact ⟨0, by rw [Nat.add_zero, Nat.mod_eq_of_lt HY.out], by omega, H.out.drew, (Mut.refl b w).drew⟩
    case round =>
      obtain ⟨i, rfl, hi, hC, hM⟩ := hrel
      have HC := hide hC
      have HM := hide hM
      clear hC hM
      have HD := hide (dist HY.out hi0 hi)
      have HX := hide (next_mod y i n)
      have hxl : (y + i) % n < n := Nat.mod_lt _ (by omega)
      have Hv := hide (hm _ hxl)
      have hx0 : (0 : Int) ≤ (((y + i) % n : Nat) : Int) := Int.natCast_nonneg _
      have hx1 : (((y + i) % n : Nat) : Int) < 64 := by omega
      have q0 := HC.out.ch ((y + i) % n) (by rw [hl]; exact hxl)
      by_cases he : i = i0
      · subst he
        have hat := Hat.out
        generalize hx : (y + i) % n = x at hat q0 hx0 hx1 hxl Hr ⊢
        generalize held.getD x 0 = v at hat q0
        have hvb : (v == -1) = false := by rw [beq_eq_false_iff_ne]; omega
        clear HD HX Hat Hbe hx
        go_wp2_with fail
        go_ret
        exact ⟨ret_int (by rw [Hr.out]), HC.out, HM.out⟩
      · have hv := Hbe.out i (by omega)
        have hv1 : held.getD ((y + i) % n) 0 = -1 := by have := Hv.out; omega
        rw [hv1] at q0
        generalize hx : (y + i) % n = x at q0 hx0 hx1 HD HX hxl ⊢
        have HD2 := hide (dist HY.out hi0 (show i + 1 ≤ i0 by omega))
        rw [← HX.out] at HD2
        clear hv hv1 Hv hx
        go_wp2_with fail
        refine (empty_any _ HC.out).mono ?_
        rintro e w2 ⟨rfl, hC, hM⟩
        have HC2 := hide hC
        have HM2 := hide (HM.out.trans hM)
        have d4 := hC.c4
        clear hC hM q0 HC HM
        rw [hde]
        have hmod : Int.tmod ((x : Int) + 1) (n : Int) = (((x + 1) % n : Nat) : Int) := by
          rw [show (x : Int) + 1 = ((x + 1 : Nat) : Int) by omega, tmod_nat]
        go_wp2_with fail
        go_roundw
        · exact ⟨i + 1, by rw [← HX.out]; first | done | rfl | (push_cast; rfl) | simp, by omega, HC2.out, HM2.out⟩
        · simp only [intOf]
          have a := HD.out
          have b := HD2.out
          have e : (((x : Int) + 1) % (n : Int)).toNat = (x + 1) % n := by
            rw [show ((x : Int) + 1) % (n : Int) = (((x + 1) % n : Nat) : Int) from by push_cast; rfl]
            exact Int.toNat_natCast _
          first
          | (rw [e, Int.toNat_natCast, a, b]; omega)
          | (rw [Int.toNat_natCast, Int.toNat_natCast, a, b]; omega)
  · have hde : decide (next = tiles) = false := decide_eq_false hq
    have Hr : Hid (seek held n (decide (next < tiles)) y = y) := by
      show seek held n (decide (next < tiles)) y = y
      rw [decide_eq_true (by omega)]
      exact seek_more _ _ _
    clear HN
    go_loopw [5] (fun v wr => v = .int .i64 (y : Nat) ∧ Crew wr b next tiles n held ∧ Mut b w wr) (fun v wr => 0)
    case atStart => exact ⟨rfl, H.out.drew, (Mut.refl b w).drew⟩
    case round =>
      obtain ⟨rfl, hC, hM⟩ := hrel
      have HC := hide hC
      have HM := hide hM
      clear hC hM
      have hxl : y < n := HY.out
      have Hv := hide (hm _ hxl)
      have hx0 : (0 : Int) ≤ (y : Int) := Int.natCast_nonneg _
      have hx1 : (y : Int) < 64 := by omega
      have q0 := HC.out.ch y (by rw [hl]; exact hxl)
      generalize held.getD y 0 = v at q0
      by_cases hv : v = -1
      · subst hv
        go_wp2_with fail
        refine (empty_any _ HC.out).mono ?_
        rintro e w2 ⟨rfl, hC, hM⟩
        have HC2 := hide hC
        have HM2 := hide (HM.out.trans hM)
        clear hC hM q0 HC HM
        rw [hde]
        go_wp2_with fail
        go_ret
        exact ⟨ret_int (by rw [Hr.out]), HC2.out, HM2.out⟩
      · have hvb : (v == -1) = false := by rw [beq_eq_false_iff_ne]; exact hv
        go_wp2_with fail
        go_ret
        exact ⟨ret_int (by rw [Hr.out]), HC.out, HM.out⟩
end Go.Proofs.Ytjjemnlknnnkbaa
