import Derived.Test.YtdmbpkcjladhdaaGreatDoorFcD
import Derived.BigQuiet
namespace Go.Proofs.YtdmbpkcjladhdaaGreatDoor
open Go.RowKit FL Ieee
set_option linter.unusedSimpArgs false
set_option linter.unusedVariables false

set_option maxHeartbeats 1000000 in
theorem allBytes_any (L : List UInt8) (hd : ∀ b ∈ L, 48 ≤ b.toNat ∧ b.toNat ≤ 57) (hl : L.length ≤ 1000) (w : World) :
    Calls Tryz.prog 68 #[str L, .int .u8 48, .int .u8 57] w fun e w' => e = .returned (.bool true) ∧ w' = w := by
  unfold str
  have Hd := hide hd
  clear hd
  go_enter Tryz.func68, Tryz.ntmps68
  go_wp2
  go_loopw [7, 10] (fun a i wr => ∃ j : Nat, i = .int .i64 (j : Int) ∧ j ≤ L.length ∧ wr = w) (fun a i _ => ((L.length : Int) - intOf i).toNat)
  case atStart => exact ⟨0, rfl, by omega, rfl⟩
  case round =>
    obtain ⟨j, rfl, hj, hw⟩ := hrel
    obtain rfl := hw.symm
    by_cases hlt : j < L.length
    · have hj0 : (0 : Int) ≤ (j : Int) := Int.natCast_nonneg _
      have hj1 : (j : Int) < (L.length : Int) := by omega
      have hb := Hd.out (L[j]'hlt) (List.getElem_mem hlt)
      have hsz : j < (⟨L.toArray⟩ : ByteArray).size := hlt
      have hg : (⟨L.toArray⟩ : ByteArray)[j]'hsz = L[j]'hlt := rfl
      rw [← hg] at hb
      have b1 : decide ((((⟨L.toArray⟩ : ByteArray)[j]'hsz).toNat : Int) < 48) = false := by rw [decide_eq_false_iff_not]; omega
      have b2 : decide ((57 : Int) < (((⟨L.toArray⟩ : ByteArray)[j]'hsz).toNat : Int)) = false := by rw [decide_eq_false_iff_not]; omega
      clear hb hg
      go_wp2
      go_roundw
      case rel => exact ⟨j + 1, by congr 1, by omega, trivial⟩
      case measure => simp [intOf]; omega
    · go_wp2
      go_ret
      exact ⟨rfl, rfl⟩

/-- What is behind the sign. -/
theorem trim_neg (u : Nat) : Lib.trimPrefix (45 :: Lib.decDigits u) [45] = Lib.decDigits u := by
  unfold Lib.trimPrefix
  have : Lib.hasPrefix (45 :: Lib.decDigits u) [45] = true := by simp [Lib.hasPrefix, List.isPrefixOf]
  rw [if_pos this]; rfl
theorem trim_pos (u : Nat) : Lib.trimPrefix (Lib.decDigits u) [45] = Lib.decDigits u := by
  unfold Lib.trimPrefix
  cases hd : Lib.decDigits u with
  | nil => exact absurd hd (dig_ne u)
  | cons c r =>
    have hc := dig_all u c (by rw [hd]; simp)
    have hne : c ≠ 45 := by
      intro e
      subst e
      have : (45 : UInt8).toNat = 45 := rfl
      omega
    have : Lib.hasPrefix (c :: r) [45] = false := by simp [Lib.hasPrefix, List.isPrefixOf]; exact fun e => hne e.symm
    rw [if_neg (by rw [this]; decide)]
theorem trim_itoa (n : Int) : Lib.trimPrefix (Lib.itoa n) [45] = Lib.decDigits n.natAbs := by
  unfold Lib.itoa
  split
  · exact trim_neg _
  · rw [trim_pos]; congr 1; omega
theorem itoa_zero (n : Int) : Lib.itoa n = [48] ↔ n = 0 := by
  constructor
  · intro h
    unfold Lib.itoa at h
    split at h
    · injection h with h1 h2
      cases h1
    · by_cases hz : n.toNat = 0
      · omega
      · have := dig_head n.toNat (by omega) 48 [] h
        have e : (48 : UInt8).toNat = 48 := rfl
        omega
  · intro h
    subst h
    unfold Lib.itoa
    rw [if_neg (by decide), Lib.decDigits_one (by decide)]
    rfl

theorem gqe (op : BinOp) (L M : List UInt8) (W : World) (a b : Operand) : (eqGuard op 9 a b (str L) (.string ⟨M.toArray⟩)).run Tryz.prog W = .ok () W := by
  cases op <;> simp [eqGuard, str]
theorem eq_run (L M : List UInt8) (W : World) : (binOp .eql 9 (str L) (.string ⟨M.toArray⟩)).run Tryz.prog W = .ok (.bool (L == M)) W := by
  have e : binOp .eql 9 (str L) (.string ⟨M.toArray⟩) = pure (.bool (L == M)) := by
    unfold str
    rw [binOp_string_eql, ByteArray.toList_eq, ByteArray.toList_eq]
  rw [e]; rfl
theorem ne_run (L M : List UInt8) (W : World) : (binOp .neq 9 (str L) (.string ⟨M.toArray⟩)).run Tryz.prog W = .ok (.bool !(L == M)) W := by
  have e : binOp .neq 9 (str L) (.string ⟨M.toArray⟩) = pure (.bool !(L == M)) := by
    unfold str
    rw [binOp_string_neq, ByteArray.toList_eq, ByteArray.toList_eq]
  rw [e]; rfl
/-- The text against a constant. -/
theorem eq_is (L M : List UInt8) (c : ByteArray) (hc : c = ⟨M.toArray⟩) (b : Bool) (hb : (L == M) = b) : (∀ W, (binOp .eql 9 (str L) (.string c)).run Tryz.prog W = .ok (.bool b) W) ∧ ∀ W x y, (eqGuard .eql 9 x y (str L) (.string c)).run Tryz.prog W = .ok () W := by
  subst hc
  exact ⟨fun W => by rw [eq_run, hb], fun W x y => gqe .eql L M W x y⟩

set_option maxHeartbeats 1000000 in
theorem isInt_any (n : Int) (h : I64 n) (w : World) :
    Calls Tryz.prog 55 #[str (Lib.itoa n)] w fun e w' => e = .returned (.bool true) ∧ w' = w := by
  by_cases hz : n = 0
  · have e := eq_is (Lib.itoa n) [48] ⟨#[48]⟩ rfl true (by rw [(itoa_zero n).2 hz]; rfl)
    have e1 := e.1
    have e2 := e.2
    generalize Lib.itoa n = L at *
    go_enter Tryz.func55, Tryz.ntmps55
    go_wp2
    go_ret
    exact ⟨rfl, rfl⟩
  · have e := eq_is (Lib.itoa n) [48] ⟨#[48]⟩ rfl false (by rw [beq_eq_false_iff_ne]; exact fun e => hz ((itoa_zero n).1 e))
    have e1 := e.1
    have e2 := e.2
    have tp := Tryz.strings_TrimPrefix ⟨(Lib.itoa n).toArray⟩ ⟨#[45]⟩
    have te : Lib.trimPrefix (⟨(Lib.itoa n).toArray⟩ : ByteArray).data.toList (⟨#[45]⟩ : ByteArray).data.toList = Lib.decDigits n.natAbs := trim_itoa n
    rw [te] at tp
    have tp2 : ∀ w, Calls Tryz.prog 67 #[str (Lib.itoa n), .string { data := #[45] }] w fun e w' => e = .returned (str (Lib.decDigits n.natAbs)) ∧ w' = w := tp
    have ab := allBytes_any (Lib.decDigits n.natAbs) (dig_all _) (by rw [Lib.decDigits_length]; have := Lib.nDigits_le20 n.natAbs (by unfold I64 at h; omega); omega)
    have nq : ∀ W, (binOp .neq 9 (str (Lib.decDigits n.natAbs)) (.string { data := #[] })).run Tryz.prog W = .ok (.bool true) W := fun W => by
      have := ne_run (Lib.decDigits n.natAbs) [] W
      rw [beq_eq_false_iff_ne.2 (dig_ne _)] at this
      exact this
    have gq : ∀ W x y, (eqGuard .neq 9 x y (str (Lib.decDigits n.natAbs)) (.string { data := #[] })).run Tryz.prog W = .ok () W := fun W x y => gqe .neq _ [] W x y
    cases hD : Lib.decDigits n.natAbs with
    | nil => exact absurd hD (dig_ne _)
    | cons c r =>
      have hc := dig_head n.natAbs (by omega) c r hD
      rw [hD] at tp2 ab nq gq
      clear tp te hD e
      have b0 : ((c.toNat : Int) != 48) = true := by rw [bne_iff_ne]; omega
      have ix : ∀ W, (Instr.index 9 (str (c :: r)) (.int .i64 0)).run Tryz.prog W = .ok (.int .u8 (c.toNat : Int)) W := fun W => by
        unfold str
        rw [run_index_string W 9 _ .i64 0 Tryz.underlying9, dif_pos ⟨by decide, by simp [ByteArray.size]⟩]
        rfl
      generalize str (c :: r) = V at *
      generalize str (Lib.itoa n) = U at *
      go_enter Tryz.func55, Tryz.ntmps55
      go_wp2_with (first | (go_at_call 67; refine (tp2 _).mono ?_; rintro e w1 ⟨rfl, hw1⟩; obtain rfl := hw1.symm) | (go_at_call 68; refine (ab _).mono ?_; rintro e w1 ⟨rfl, hw1⟩; obtain rfl := hw1.symm))
      go_ret
      exact ⟨rfl, rfl⟩

set_option maxHeartbeats 1000000 in
theorem isInt_empty (w : World) :
    Calls Tryz.prog 55 #[str []] w fun e w' => e = .returned (.bool false) ∧ w' = w := by
  have e := eq_is [] [48] ⟨#[48]⟩ rfl false rfl
  have e1 := e.1
  have e2 := e.2
  have tp := Tryz.strings_TrimPrefix ⟨([] : List UInt8).toArray⟩ ⟨#[45]⟩
  have te : Lib.trimPrefix (⟨([] : List UInt8).toArray⟩ : ByteArray).data.toList (⟨#[45]⟩ : ByteArray).data.toList = [] := rfl
  rw [te] at tp
  have tp2 : ∀ w, Calls Tryz.prog 67 #[str [], .string { data := #[45] }] w fun e w' => e = .returned (str []) ∧ w' = w := tp
  have nq : ∀ W, (binOp .neq 9 (str []) (.string { data := #[] })).run Tryz.prog W = .ok (.bool false) W := fun W => ne_run [] [] W
  have gq : ∀ W x y, (eqGuard .neq 9 x y (str []) (.string { data := #[] })).run Tryz.prog W = .ok () W := fun W x y => gqe .neq _ [] W x y
  clear tp te e
  generalize str [] = U at *
  go_enter Tryz.func55, Tryz.ntmps55
  go_wp2_with (go_at_call 67; refine (tp2 _).mono ?_; rintro e w1 ⟨rfl, hw1⟩; obtain rfl := hw1.symm)
  go_ret
  exact ⟨rfl, rfl⟩

set_option maxHeartbeats 1000000 in
theorem parseInt_empty (w : World) :
    Calls Tryz.prog 39 #[str []] w fun e w' => e = .returned (.tuple #[.int .i64 0, .bool false]) ∧ w' = w := by
  go_enter Tryz.func39, Tryz.ntmps39
  go_wp2_with (go_at_call 55; refine (isInt_empty _).mono ?_; rintro e w1 ⟨rfl, hw1⟩; obtain rfl := hw1.symm)
  go_ret2
  exact ⟨rfl, rfl⟩

set_option maxHeartbeats 1000000 in
theorem parseInt_any (n : Int) (h : I64 n) (w : World) :
    Calls Tryz.prog 39 #[str (Lib.itoa n)] w fun e w' => e = .returned (.tuple #[.int .i64 n, .bool true]) ∧ Below w.heap.size w w' := by
  have hl := Lib.itoa_length_le n h.1 h.2
  have pi := Tryz.strconv_ParseInt_10_at64_ok ⟨(Lib.itoa n).toArray⟩ (by simp [ByteArray.size]; omega) n (parse_itoa n h.1 h.2)
  have pi2 : ∀ w, Calls Tryz.prog 56 #[str (Lib.itoa n), .int .i64 10, .int .i64 64] w fun e w' => e = .returned (.tuple #[.int .i64 n, .nilIface]) ∧ (w' = w ∨ ∃ t, w' = Lib.bytesWorld w 5 t) := pi
  have ii := isInt_any n h
  clear pi hl
  generalize str (Lib.itoa n) = U at *
  go_enter Tryz.func39, Tryz.ntmps39
  go_wp2_with (first | (go_at_call 55; refine (ii _).mono ?_; rintro e w1 ⟨rfl, hw1⟩; obtain rfl := hw1.symm) | (go_at_call 56; refine (pi2 _).mono ?_; rintro e w1 ⟨rfl, hw1⟩))
  have hb : Below w.heap.size w w1 := by
    rcases hw1 with rfl | ⟨t, rfl⟩
    · exact Below.refl _ _
    · exact Lib.bytesWorld_below _ _ _
  clear hw1
  go_region
  all_goals go_wp2
  all_goals go_ret2
  all_goals exact ⟨rfl, by first | exact hb | exact hb.drew | exact hb.drew.drew | exact hb.drew.drew.drew⟩
end Go.Proofs.YtdmbpkcjladhdaaGreatDoor
