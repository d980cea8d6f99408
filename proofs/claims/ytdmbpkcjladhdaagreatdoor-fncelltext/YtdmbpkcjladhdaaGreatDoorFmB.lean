import Derived.Test.YtdmbpkcjladhdaaGreatDoorCells3
import Derived.Test.YtdmbpkcjladhdaaGreatDoorFmA
import Derived.Laws.IdiomStrings
import Derived.Laws.Concat
import Derived.Lib.ItoaNum
import Derived.Lib.ItoaLen
namespace Go.Proofs.YtdmbpkcjladhdaaGreatDoor
open Go.RowKit FL
set_option linter.unusedSimpArgs false
set_option linter.unusedVariables false

/-- The string of a list of bytes. -/
def str (l : List UInt8) : Value := .string ⟨l.toArray⟩
/-- The byte of a number. -/
def ch (z : Int) : UInt8 := UInt8.ofNat z.toNat

theorem dec_one (v : Int) (h0 : 0 ≤ v) (h1 : v < 10) : Lib.itoa v = [ch (48 + v)] := by
  unfold Lib.itoa ch
  rw [if_neg (by omega), Lib.decDigits_one (by omega), show (48 + v).toNat = 48 + v.toNat by omega]
theorem dec_pos (v : Int) (h1 : 10 ≤ v) : Lib.itoa v = Lib.itoa (v.tdiv 10) ++ [ch (48 + v.tmod 10)] := by
  unfold Lib.itoa ch
  have e : v.tdiv 10 = v / 10 := by rw [Int.tdiv_eq_ediv_of_nonneg (by omega)]
  have e2 : v.tmod 10 = v % 10 := Int.tmod_eq_emod_of_nonneg (by omega)
  rw [if_neg (by omega), e, e2, if_neg (by omega)]
  rw [Lib.decDigits, dif_neg (by omega), show (48 + v % 10).toNat = 48 + v.toNat % 10 by omega]
  congr 2; omega
theorem dec_neg1 (v : Int) (h0 : v < 0) (h1 : -10 < v) : Lib.itoa v = [45] ++ Lib.itoa (-v) := by
  unfold Lib.itoa
  rw [if_pos h0, if_neg (by omega)]
  show _ = 45 :: _
  congr 2; omega
theorem tdiv_neg (v : Int) (h : v < 0) : v.tdiv 10 = -((-v) / 10) := by
  have := Int.neg_tdiv (a := -v) (b := 10)
  rw [Int.neg_neg, Int.tdiv_eq_ediv_of_nonneg (a := -v) (by omega)] at this
  exact this
theorem tmod_neg (v : Int) (h : v < 0) : v.tmod 10 = -((-v) % 10) := by
  have := Int.neg_tmod (-v) 10
  rw [Int.neg_neg, Int.tmod_eq_emod_of_nonneg (a := -v) (by omega)] at this
  exact this
theorem dec_neg (v : Int) (h1 : v ≤ -10) : Lib.itoa v = Lib.itoa (v.tdiv 10) ++ [ch (48 - v.tmod 10)] := by
  unfold Lib.itoa ch
  rw [if_pos (by omega), tdiv_neg v (by omega), tmod_neg v (by omega), if_pos (by omega)]
  rw [Lib.decDigits, dif_neg (by omega)]
  rw [show (-(-v / 10)).natAbs = v.natAbs / 10 by omega, show (48 - -(-v % 10)).toNat = 48 + v.natAbs % 10 by omega]
  rfl

theorem wrap_u8' (n : Int) : IntKind.u8.wrap n = n % 256 := by simp [IntKind.wrap, IntKind.signed, IntKind.bits]

theorem byte_of (n : Nat) (h : n < 256) : ((UInt8.ofNat n).toNat : Int) = (n : Int) := by
  rw [UInt8.toNat_ofNat']; simp; omega
theorem ch_nat (z : Int) (h0 : 0 ≤ z) (h1 : z < 256) : ((ch z).toNat : Int) = z := by
  unfold ch; rw [byte_of _ (by omega)]; omega

theorem conv1 (z : Int) (h0 : 0 ≤ z) (h1 : z < 256) (g : Nat) (w : World) (hc : w.cell? ⟨g, 0, none⟩ = some (.int .u8 z)) :
    (convert 22 9 (.slice (some ⟨g, 0, none⟩) 1 1)).run Tryz.prog w = .ok (str [ch z]) w :=
  run_convert_bytes_back (P := Tryz.prog) w 22 9 5 ⟨g, 0, none⟩ 1 [ch z] Tryz.underlying22 Tryz.underlying5 Tryz.underlying9 (fun j hj => by
    have : j = 0 := by simpa using hj
    subst this
    show w.cell? ⟨g, 0, none⟩ = some (.int .u8 ((ch z).toNat : Int))
    rw [ch_nat z h0 h1]; exact hc)

theorem cat_any (x y : List UInt8) (h : x.length + y.length ≤ 1000000) (W : World) : (binOp .add 9 (str x) (str y)).run Tryz.prog W = .ok (str (x ++ y)) W := by
  have := run_string_add_lists (P := Tryz.prog) W x y (by omega) (by omega)
  simp [binOp, str, this]
theorem str_c (x : List UInt8) : Value.string ⟨x.toArray⟩ = str x := rfl

end Go.Proofs.YtdmbpkcjladhdaaGreatDoor
