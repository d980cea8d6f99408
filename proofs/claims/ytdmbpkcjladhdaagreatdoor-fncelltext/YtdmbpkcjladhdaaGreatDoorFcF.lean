import Derived.Test.YtdmbpkcjladhdaaGreatDoorFcE
import Derived.Test.YtdmbpkcjladhdaaGreatDoorFmJ
namespace Go.Proofs.YtdmbpkcjladhdaaGreatDoor
open Go.RowKit FL Ieee
set_option linter.unusedSimpArgs false
set_option linter.unusedVariables false

/-- What the text of a float is read as. -/
def rdF (x : Nat) : Nat := if nanD x = true then 9221120237041090561 else x

/-- The five words of floats. -/
structure NoWord (L : List UInt8) (b1 b2 b3 b4 b5 : Bool) : Prop where
  e1 : (L == [110, 97, 110]) = b1
  e2 : (L == [105, 110, 102]) = b2
  e3 : (L == [45, 105, 110, 102]) = b3
  e4 : (L == [48]) = b4
  e5 : (L == [45, 48]) = b5

theorem noWord_p (L : List UInt8) (h : (112 : UInt8) ∈ L) : NoWord L false false false false false := by
  have key : ∀ M : List UInt8, (112 : UInt8) ∉ M → (L == M) = false := fun M hM => by
    rw [beq_eq_false_iff_ne]; intro e; rw [e] at h; exact hM h
  exact ⟨key _ (by decide), key _ (by decide), key _ (by decide), key _ (by decide), key _ (by decide)⟩

set_option maxHeartbeats 1000000 in
theorem pf_nan (w : World) : Calls Tryz.prog 35 #[str [110, 97, 110]] w fun e w' => e = .returned (.tuple #[.float .f64 9221120237041090561, .bool true]) ∧ w' = w := by
  obtain ⟨a1, a2⟩ := eq_is [110, 97, 110] [110, 97, 110] ⟨#[110, 97, 110]⟩ rfl true rfl
  generalize str [110, 97, 110] = U at *
  go_enter Tryz.func35, Tryz.ntmps35
  go_wp2_with (go_at_call 46; refine (nan_any _).mono ?_; rintro e w1 ⟨rfl, hw1⟩; obtain rfl := hw1.symm)
  go_ret2
  exact ⟨rfl, rfl⟩
set_option maxHeartbeats 1000000 in
theorem pf_inf (w : World) : Calls Tryz.prog 35 #[str [105, 110, 102]] w fun e w' => e = .returned (.tuple #[.float .f64 9218868437227405312, .bool true]) ∧ w' = w := by
  obtain ⟨a1, a2⟩ := eq_is [105, 110, 102] [110, 97, 110] ⟨#[110, 97, 110]⟩ rfl false rfl
  obtain ⟨b1, b2⟩ := eq_is [105, 110, 102] [105, 110, 102] ⟨#[105, 110, 102]⟩ rfl true rfl
  generalize str [105, 110, 102] = U at *
  go_enter Tryz.func35, Tryz.ntmps35
  go_wp2_with (go_at_call 47; refine (inf_pos _).mono ?_; rintro e w1 ⟨rfl, hw1⟩; obtain rfl := hw1.symm)
  go_ret2
  exact ⟨rfl, rfl⟩
set_option maxHeartbeats 1000000 in
theorem pf_ninf (w : World) : Calls Tryz.prog 35 #[str [45, 105, 110, 102]] w fun e w' => e = .returned (.tuple #[.float .f64 18442240474082181120, .bool true]) ∧ w' = w := by
  obtain ⟨a1, a2⟩ := eq_is [45, 105, 110, 102] [110, 97, 110] ⟨#[110, 97, 110]⟩ rfl false rfl
  obtain ⟨b1, b2⟩ := eq_is [45, 105, 110, 102] [105, 110, 102] ⟨#[105, 110, 102]⟩ rfl false rfl
  obtain ⟨c1, c2⟩ := eq_is [45, 105, 110, 102] [45, 105, 110, 102] ⟨#[45, 105, 110, 102]⟩ rfl true rfl
  generalize str [45, 105, 110, 102] = U at *
  go_enter Tryz.func35, Tryz.ntmps35
  go_wp2_with (go_at_call 47; refine (inf_neg _).mono ?_; rintro e w1 ⟨rfl, hw1⟩; obtain rfl := hw1.symm)
  go_ret2
  exact ⟨rfl, rfl⟩
set_option maxHeartbeats 1000000 in
theorem pf_zero (w : World) : Calls Tryz.prog 35 #[str [48]] w fun e w' => e = .returned (.tuple #[.float .f64 0, .bool true]) ∧ w' = w := by
  obtain ⟨a1, a2⟩ := eq_is [48] [110, 97, 110] ⟨#[110, 97, 110]⟩ rfl false rfl
  obtain ⟨b1, b2⟩ := eq_is [48] [105, 110, 102] ⟨#[105, 110, 102]⟩ rfl false rfl
  obtain ⟨c1, c2⟩ := eq_is [48] [45, 105, 110, 102] ⟨#[45, 105, 110, 102]⟩ rfl false rfl
  obtain ⟨d1, d2⟩ := eq_is [48] [48] ⟨#[48]⟩ rfl true rfl
  generalize str [48] = U at *
  go_enter Tryz.func35, Tryz.ntmps35
  go_wp2
  go_ret2
  exact ⟨rfl, rfl⟩
set_option maxHeartbeats 1000000 in
theorem pf_nzero (w : World) : Calls Tryz.prog 35 #[str [45, 48]] w fun e w' => e = .returned (.tuple #[.float .f64 9223372036854775808, .bool true]) ∧ w' = w := by
  obtain ⟨a1, a2⟩ := eq_is [45, 48] [110, 97, 110] ⟨#[110, 97, 110]⟩ rfl false rfl
  obtain ⟨b1, b2⟩ := eq_is [45, 48] [105, 110, 102] ⟨#[105, 110, 102]⟩ rfl false rfl
  obtain ⟨c1, c2⟩ := eq_is [45, 48] [45, 105, 110, 102] ⟨#[45, 105, 110, 102]⟩ rfl false rfl
  obtain ⟨d1, d2⟩ := eq_is [45, 48] [48] ⟨#[48]⟩ rfl false rfl
  obtain ⟨f1, f2⟩ := eq_is [45, 48] [45, 48] ⟨#[45, 48]⟩ rfl true rfl
  generalize str [45, 48] = U at *
  go_enter Tryz.func35, Tryz.ntmps35
  go_wp2_with (go_at_call 48; refine (minus_zero _).mono ?_; rintro e w1 ⟨rfl, hw1⟩; obtain rfl := hw1.symm)
  go_ret2
  exact ⟨rfl, rfl⟩

/-- strings.Cut at one byte. -/
theorem cut_any (L A B : List UInt8) (p : UInt8) (f : Bool) (c : ByteArray) (hc : c = ⟨[p].toArray⟩) (hcut : Lib.cut L [p] = (A, B, f)) (hl : L.length ≤ 1000) (m : Int) (w : World) (hm : w.cell? ⟨2, 0, none⟩ = some (.int .i64 m)) :
    Calls Tryz.prog 37 #[str L, .string c] w fun e w' => e = .returned (.tuple #[str A, str B, .bool f]) ∧ ∃ n, w' = w.drewN n := by
  subst hc
  have := Tryz.strings_Cut ⟨L.toArray⟩ ⟨[p].toArray⟩ m w (by simp [ByteArray.size]; omega) hm
  have e : Lib.cut (⟨L.toArray⟩ : ByteArray).data.toList (⟨[p].toArray⟩ : ByteArray).data.toList = (A, B, f) := hcut
  rw [e] at this
  exact this

theorem cell_drewN (w : World) (n : Nat) (a : Addr) : (w.drewN n).cell? a = w.cell? a := rfl

set_option maxHeartbeats 1000000 in
theorem pf_empty (m : Int) (w : World) (hm : w.cell? ⟨2, 0, none⟩ = some (.int .i64 m)) : Calls Tryz.prog 35 #[str []] w fun e w' => e = .returned (.tuple #[.float .f64 0, .bool false]) ∧ Below w.heap.size w w' := by
  obtain ⟨a1, a2⟩ := eq_is [] [110, 97, 110] ⟨#[110, 97, 110]⟩ rfl false rfl
  obtain ⟨b1, b2⟩ := eq_is [] [105, 110, 102] ⟨#[105, 110, 102]⟩ rfl false rfl
  obtain ⟨c1, c2⟩ := eq_is [] [45, 105, 110, 102] ⟨#[45, 105, 110, 102]⟩ rfl false rfl
  obtain ⟨d1, d2⟩ := eq_is [] [48] ⟨#[48]⟩ rfl false rfl
  obtain ⟨f1, f2⟩ := eq_is [] [45, 48] ⟨#[45, 48]⟩ rfl false rfl
  have ct := cut_any [] [] [] 112 false ⟨#[112]⟩ rfl (cut_none [] 112 (by decide)) (by decide) m w hm
  have pe := parseInt_empty
  generalize str [] = U at *
  go_enter Tryz.func35, Tryz.ntmps35
  go_wp2_with (first | (go_at_call 37; refine ct.mono ?_; rintro e w1 ⟨rfl, n, hw1⟩) | (go_at_call 39; refine (pe _).mono ?_; rintro e w2 ⟨rfl, hw2⟩; obtain rfl := hw2.symm))
  go_ret2
  exact ⟨rfl, below_drewN (Below.refl _ _) n⟩
end Go.Proofs.YtdmbpkcjladhdaaGreatDoor
