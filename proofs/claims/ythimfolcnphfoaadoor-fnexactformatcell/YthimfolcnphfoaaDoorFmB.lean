import Derived.Test.YthimfolcnphfoaaDoorCells3
import Derived.Test.YthimfolcnphfoaaDoorFmA
import Derived.Laws.IdiomStrings
import Derived.Laws.Concat
import Derived.Lib.ItoaNum
import Derived.Lib.ItoaLen
namespace Go.Proofs.YthimfolcnphfoaaDoor
open Go.RowKit FL
set_option linter.unusedSimpArgs false
set_option linter.unusedVariables false

/-- The string of a list of bytes. -/
def str (l : List UInt8) : Value := .string ⟨l.toArray⟩
/-- The byte of a number. -/
def ch (z : Int) : UInt8 := UInt8.ofNat z.toNat

theorem dec_one (v : Int) (h0 : 0 ≤ v) (h1 : v < 10) : Lib.itoa v = [ch (48 + v)] := by
  unfold Lib.itoa ch
  rw [if_neg (by omega), Lib.decDigits_one (by omega), show (48 + v).toNat = 48 + v.toNat by omega]
theorem dec_pos (v : Int) (h1 : 10 ≤ v) : Lib.itoa v = Lib.itoa (v.tdiv 10) ++ [ch (48 + v.tmod 10)] := by
  unfold Lib.itoa ch
  have e : v.tdiv 10 = v / 10 := by rw [Int.tdiv_eq_ediv_of_nonneg (by omega)]
  have e2 : v.tmod 10 = v % 10 := Int.tmod_eq_emod_of_nonneg (by omega)
  rw [if_neg (by omega), e, e2, if_neg (by omega)]
  rw [Lib.decDigits, dif_neg (by omega), show (48 + v % 10).toNat = 48 + v.toNat % 10 by omega]
  congr 2; omega
theorem dec_neg1 (v : Int) (h0 : v < 0) (h1 : -10 < v) : Lib.itoa v = [45] ++ Lib.itoa (-v) := by
  unfold Lib.itoa
  rw [if_pos h0, if_neg (by omega)]
  show _ = 45 :: _
  congr 2; omega
theorem tdiv_neg (v : Int) (h : v < 0) : v.tdiv 10 = -((-v) / 10) := by
  have := Int.neg_tdiv (a := -v) (b := 10)
  rw [Int.neg_neg, Int.tdiv_eq_ediv_of_nonneg (a := -v) (by omega)] at this
  exact this
theorem tmod_neg (v : Int) (h : v < 0) : v.tmod 10 = -((-v) % 10) := by
  have := Int.neg_tmod (-v) 10
  rw [Int.neg_neg, Int.tmod_eq_emod_of_nonneg (a := -v) (by omega)] at this
  exact this
theorem dec_neg (v : Int) (h1 : v ≤ -10) : Lib.itoa v = Lib.itoa (v.tdiv 10) ++ [ch (48 - v.tmod 10)] := by
  unfold Lib.itoa ch
  rw [if_pos (by omega), tdiv_neg v (by omega), tmod_neg v (by omega), if_pos (by omega)]
  rw [Lib.decDigits, dif_neg (by omega)]
  rw [show (-(-v / 10)).natAbs = v.natAbs / 10 by omega, show (48 - -(-v % 10)).toNat = 48 + v.natAbs % 10 by omega]
  rfl

theorem wrap_u8' (n : Int) : IntKind.u8.wrap n = n % 256 := by simp [IntKind.wrap, IntKind.signed, IntKind.bits]

theorem byte_of (n : Nat) (h : n < 256) : ((UInt8.ofNat n).toNat : Int) = (n : Int) := by
  rw [UInt8.toNat_ofNat']; simp; omega
theorem ch_nat (z : Int) (h0 : 0 ≤ z) (h1 : z < 256) : ((ch z).toNat : Int) = z := by
  unfold ch; rw [byte_of _ (by omega)]; omega

theorem conv1 (z : Int) (h0 : 0 ≤ z) (h1 : z < 256) (g : Nat) (w : World) (hc : w.cell? ⟨g, 0, none⟩ = some (.int .u8 z)) :
    (convert 25 9 (.slice (some ⟨g, 0, none⟩) 1 1)).run Tryd.prog w = .ok (str [ch z]) w :=
  run_convert_bytes_back (P := Tryd.prog) w 25 9 5 ⟨g, 0, none⟩ 1 [ch z] Tryd.underlying25 Tryd.underlying5 Tryd.underlying9 (fun j hj => by
    have : j = 0 := by simpa using hj
    subst this
    show w.cell? ⟨g, 0, none⟩ = some (.int .u8 ((ch z).toNat : Int))
    rw [ch_nat z h0 h1]; exact hc)

theorem cat_any (x y : List UInt8) (h : x.length + y.length ≤ 1000000) (W : World) : (binOp .add 9 (str x) (str y)).run Tryd.prog W = .ok (str (x ++ y)) W := by
  have := run_string_add_lists (P := Tryd.prog) W x y (by omega) (by omega)
  simp [binOp, str, this]
theorem str_c (x : List UInt8) : Value.string ⟨x.toArray⟩ = str x := rfl

set_option maxHeartbeats 1000000 in
theorem l6Dec_digit (v : Int) (h0 : 0 ≤ v) (h1 : v < 10) (w : World) :
    Calls Tryd.prog 12 #[.int .i64 v] w fun e w' => e = .returned (str (Lib.itoa v)) ∧ Ext w w' := by
  rw [dec_one _ h0 h1]
  have b0 : decide (v < 0) = false := by simp; omega
  have wr : IntKind.u8.wrap (48 + v) = 48 + v := by rw [wrap_u8']; omega
  have cv := conv1 (48 + v) (by omega) (by omega) w.heap.size (w.alloc (.cells #[.int .u8 (48 + v)] 5)) (by simp)
  go_enter Tryd.func12, Tryd.ntmps12
  go_wp2
  go_ret
  exact ⟨rfl, (Ext.refl w).alloc _ _⟩

set_option maxHeartbeats 1000000 in
theorem l6Dec_small (v : Int) (h0 : v < 0) (h1 : -10 < v) (w : World) :
    Calls Tryd.prog 12 #[.int .i64 v] w fun e w' => e = .returned (str (Lib.itoa v)) ∧ Ext w w' := by
  rw [dec_neg1 _ h0 h1]
  have hl := Lib.itoa_length_le (-v) (by omega) (by omega)
  have c := l6Dec_digit (-v) (by omega) (by omega)
  generalize Lib.itoa (-v) = L at *
  have ct := cat_any [45] L (by simp; omega)
  have ct2 : ∀ W, (binOp .add 9 (.string { data := #[45] }) (str L)).run Tryd.prog W = .ok (str ([45] ++ L)) W := ct
  clear ct
  generalize [45] ++ L = M at *
  have b0 : decide (v < 0) = true := by simp; omega
  have b1 : decide (-10 < v) = true := by simp; omega
  have wr : IntKind.i64.wrap (-v) = -v := by rw [IntKind.wrap_i64]; omega
  go_enter Tryd.func12, Tryd.ntmps12
  go_wp2_with (go_at_call 12; refine (c _).mono ?_; rintro e w1 ⟨rfl, x1⟩)
  go_wp2
  go_ret
  exact ⟨rfl, x1⟩

set_option maxHeartbeats 1000000 in
theorem l6Dec_step (v : Int) (h0 : 10 ≤ v) (h1 : v ≤ 9223372036854775807) (c : ∀ w, Calls Tryd.prog 12 #[.int .i64 (v.tdiv 10)] w fun e w' => e = .returned (str (Lib.itoa (v.tdiv 10))) ∧ Ext w w') (w : World) :
    Calls Tryd.prog 12 #[.int .i64 v] w fun e w' => e = .returned (str (Lib.itoa v)) ∧ Ext w w' := by
  rw [dec_pos _ h0]
  have e1 : v.tdiv 10 = v / 10 := by rw [Int.tdiv_eq_ediv_of_nonneg (by omega)]
  have e2 : v.tmod 10 = v % 10 := Int.tmod_eq_emod_of_nonneg (by omega)
  have hl := Lib.itoa_length_le (v.tdiv 10) (by omega) (by omega)
  have ct := cat_any (Lib.itoa (v.tdiv 10)) [ch (48 + v.tmod 10)] (by simp; omega)
  generalize Lib.itoa (v.tdiv 10) ++ [ch (48 + v.tmod 10)] = M at *
  generalize Lib.itoa (v.tdiv 10) = L at *
  have b0 : decide (v < 0) = false := by simp; omega
  have b1 : decide (v < 10) = false := by simp; omega
  have w1 : IntKind.i64.wrap (v.tdiv 10) = v.tdiv 10 := by rw [IntKind.wrap_i64]; omega
  have w2 : IntKind.i64.wrap (48 + v.tmod 10) = 48 + v.tmod 10 := by rw [IntKind.wrap_i64]; omega
  have w3 : IntKind.u8.wrap (48 + v.tmod 10) = 48 + v.tmod 10 := by rw [wrap_u8']; omega
  have cv := conv1 (48 + v.tmod 10) (by omega) (by omega)
  clear e1 e2
  go_enter Tryd.func12, Tryd.ntmps12
  go_wp2_with fail
  go_region_with (go_at_call 12; refine (c _).mono ?_; rintro e w1 ⟨rfl, x1⟩; have k1 := fun h => x1.box (b := w.heap.size) (o := 0) (v := .int .u8 (48 + v.tmod 10)) h; try simp at k1)
  all_goals go_wp2
  all_goals go_ret
  all_goals exact ⟨rfl, by with_reducible repeat (first | exact Ext.refl _ | apply Ext.drew | apply Ext.alloc | exact x1 | refine Ext.trans ?_ x1)⟩
set_option maxHeartbeats 1000000 in
theorem l6Dec_nstep (v : Int) (h0 : v ≤ -10) (h1 : -9223372036854775808 ≤ v) (c : ∀ w, Calls Tryd.prog 12 #[.int .i64 (v.tdiv 10)] w fun e w' => e = .returned (str (Lib.itoa (v.tdiv 10))) ∧ Ext w w') (w : World) :
    Calls Tryd.prog 12 #[.int .i64 v] w fun e w' => e = .returned (str (Lib.itoa v)) ∧ Ext w w' := by
  rw [dec_neg _ h0]
  have e1 := tdiv_neg v (by omega)
  have e2 := tmod_neg v (by omega)
  have hl := Lib.itoa_length_le (v.tdiv 10) (by omega) (by omega)
  have ct := cat_any (Lib.itoa (v.tdiv 10)) [ch (48 - v.tmod 10)] (by simp; omega)
  generalize Lib.itoa (v.tdiv 10) ++ [ch (48 - v.tmod 10)] = M at *
  generalize Lib.itoa (v.tdiv 10) = L at *
  have b0 : decide (v < 0) = true := by simp; omega
  have b1 : decide (-10 < v) = false := by simp; omega
  have w1 : IntKind.i64.wrap (v.tdiv 10) = v.tdiv 10 := by rw [IntKind.wrap_i64]; omega
  have w2 : IntKind.i64.wrap (48 - v.tmod 10) = 48 - v.tmod 10 := by rw [IntKind.wrap_i64]; omega
  have w3 : IntKind.u8.wrap (48 - v.tmod 10) = 48 - v.tmod 10 := by rw [wrap_u8']; omega
  have cv := conv1 (48 - v.tmod 10) (by omega) (by omega)
  clear e1 e2
  go_enter Tryd.func12, Tryd.ntmps12
  go_wp2_with fail
  go_region_with (go_at_call 12; refine (c _).mono ?_; rintro e w1 ⟨rfl, x1⟩; have k1 := fun h => x1.box (b := w.heap.size) (o := 0) (v := .int .u8 (48 - v.tmod 10)) h; try simp at k1)
  all_goals go_wp2
  all_goals go_ret
  all_goals exact ⟨rfl, by with_reducible repeat (first | exact Ext.refl _ | apply Ext.drew | apply Ext.alloc | exact x1 | refine Ext.trans ?_ x1)⟩

theorem l6Dec_all (n : Nat) : ∀ (v : Int), v.natAbs ≤ n → I64 v → ∀ w, Calls Tryd.prog 12 #[.int .i64 v] w fun e w' => e = .returned (str (Lib.itoa v)) ∧ Ext w w' := by
  induction n with
  | zero => intro v h hi w; exact l6Dec_digit v (by omega) (by omega) w
  | succ n ih =>
    intro v h hi w
    unfold I64 at hi
    by_cases h1 : 10 ≤ v
    · have e1 : v.tdiv 10 = v / 10 := by rw [Int.tdiv_eq_ediv_of_nonneg (by omega)]
      exact l6Dec_step v h1 (by omega) (ih _ (by omega) (by unfold I64; omega)) w
    · by_cases h2 : v ≤ -10
      · have e1 := tdiv_neg v (by omega)
        exact l6Dec_nstep v h2 (by omega) (ih _ (by omega) (by unfold I64; omega)) w
      · by_cases h3 : v < 0
        · exact l6Dec_small v h3 (by omega) w
        · exact l6Dec_digit v (by omega) (by omega) w
theorem l6Dec_any (v : Int) (h : I64 v) (w : World) : Calls Tryd.prog 12 #[.int .i64 v] w fun e w' => e = .returned (str (Lib.itoa v)) ∧ Ext w w' :=
  l6Dec_all v.natAbs v (Nat.le_refl _) h w
end Go.Proofs.YthimfolcnphfoaaDoor
