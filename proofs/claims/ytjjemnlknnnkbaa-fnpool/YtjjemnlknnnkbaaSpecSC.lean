import Derived.Test.YtjjemnlknnnkbaaSched
namespace Go.Proofs.Ytjjemnlknnnkbaa
open Go.ChangeShapes Go.RowKit Go.MuLone
set_option linter.unusedSimpArgs false
set_option linter.unusedVariables false

theorem tmod_nat (a b : Nat) : Int.tmod (a : Int) (b : Int) = ((a % b : Nat) : Int) := by
  rw [← Int.ofNat_tmod]

set_option maxRecDepth 100000 in
set_option maxHeartbeats 1000000 in
theorem worker_any {w : World} {v : Value} {held : List Int} (h : Ints w v held) (hl : held.length ≤ 64) (h0 : 0 < held.length) (more : Bool) (x : Nat) (hx : x < held.length) :
    Calls Try.prog 33 #[v, .bool more, .int .i64 x] w fun e w' => e = .returned (.int .i64 (seek held held.length more x)) ∧ Ext w w' := by
  obtain ⟨sa, cap, rfl, hr⟩ := h
  have HR := hide hr
  clear hr
  go_enter Try.func33, Try.ntmps33
  go_wp2
  go_loopw [8] (fun i wr => ∃ k : Nat, i = .int .i64 k ∧ k ≤ held.length ∧ Hid ((more = false ∨ k = 0) ∧ ∀ j, j < k → held.getD ((x + j) % held.length) 0 < 0) ∧ Ext w wr) (fun i _ => held.length - (intOf i).toNat)
  case atStart => exact ⟨0, rfl, by omega, ⟨Or.inr rfl, fun j hj => absurd hj (Nat.not_lt_zero _)⟩, Ext.refl w⟩
  case round =>
    obtain ⟨k, rfl, hk, HK, hw⟩ := hrel
    have HW := hide hw
    clear hw
    by_cases hlt : k < held.length
    · rcases HR.out with e0 | ⟨b, off, rfl, hrow⟩
      · rw [e0] at hlt; simp at hlt
      obtain ⟨y, hy⟩ : ∃ y, (x + k) % held.length = y := ⟨_, rfl⟩
      have hyl : y < held.length := by rw [← hy]; exact Nat.mod_lt _ h0
      have q0 := HW.out.box (hrow y hyl)
      have hk0 : (0 : Int) ≤ (k : Int) := Int.natCast_nonneg _
      have hk1 : (k : Int) < (held.length : Int) := by omega
      have hy0 : (0 : Int) ≤ (y : Int) := Int.natCast_nonneg _
      have hy1 : (y : Int) < (held.length : Int) := by omega
      have hmod : Int.tmod ((x : Int) + (k : Int)) (held.length : Int) = (y : Int) := by
        rw [← Int.natCast_add, tmod_nat, hy]
      have hne : ¬ (held.length : Int) = 0 := by omega
      have hnb : ((held.length : Int) == 0) = false := by rw [beq_eq_false_iff_ne]; exact hne
      have hnm : ((held.length : Int) == -1) = false := by rw [beq_eq_false_iff_ne]; omega
      have hy' : (x + k) % held.length = y := hy
      have Hnx : Hid (held.getD y 0 < 0 → ∀ j, j < k + 1 → held.getD ((x + j) % held.length) 0 < 0) := fun h j hj => by
        by_cases e : j = k
        · subst e; rw [hy']; exact h
        · exact HK.out.2 j (by omega)
      have hk00 : more = true → y = x := fun h => by
        have : k = 0 := HK.out.1.resolve_left (by rw [h]; simp)
        rw [← hy', this, Nat.add_zero]
        exact Nat.mod_eq_of_lt hx
      have Hat : Hid (0 ≤ held.getD y 0 → seek held held.length more x = y) := fun h => by
        cases hm : more with
        | true => rw [hk00 hm]; exact seek_more _ _ _
        | false => rw [← hy']; exact seek_at hlt (by rw [hy']; exact h) HK.out.2
      clear hrow hy hy'
      generalize held.getD y 0 = z at q0 Hnx Hat
      by_cases hz : 0 ≤ z
      · have Hr := hide (Hat.out hz)
        clear Hat Hnx hk00
        go_wp2
        go_ret
        exact ⟨ret_int (by rw [Hr.out]), HW.out⟩
      · cases hm : more with
        | true =>
          have Hr : Hid (seek held held.length true x = y) := (seek_more _ _ _).trans (hk00 hm).symm
          clear Hat Hnx hk00
          subst hm
          go_wp2
          go_ret
          exact ⟨ret_int (by rw [Hr.out]), HW.out⟩
        | false =>
          have H2 := hide (Hnx.out (by omega))
          clear Hat Hnx hk00
          subst hm
          go_wp2
          go_roundw
          · exact ⟨k + 1, by go_num, by omega, ⟨Or.inl (by first | rfl | trivial), H2.out⟩, HW.out⟩
          · simp [intOf]; omega
    · have hkk : k = held.length := by omega
      subst hkk
      have hm : more = false := HK.out.1.resolve_right (by omega)
      have Hr : Hid (seek held held.length more x = x) := by
        show seek held held.length more x = x
        rw [hm]; exact seek_none HK.out.2
      clear hm
      go_wp2
      go_ret
      exact ⟨ret_int (by rw [Hr.out]), HW.out⟩
end Go.Proofs.Ytjjemnlknnnkbaa
