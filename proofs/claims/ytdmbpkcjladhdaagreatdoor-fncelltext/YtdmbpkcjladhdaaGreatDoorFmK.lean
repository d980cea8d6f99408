import Derived.Test.YtdmbpkcjladhdaaGreatDoorFmJ
namespace Go.Proofs.YtdmbpkcjladhdaaGreatDoor
open Go.RowKit FL Ieee
set_option linter.unusedSimpArgs false
set_option linter.unusedVariables false

/-- The two tables, whatever is done from block B on. -/
def Tabs (B : Nat) (w : World) : Prop := Lib.TabBelow Tryz.prog B w "internal/strconv.uint64pow10" .u64 Lib.pow10Tab ∧ ∀ w', Below B w w' → TabAt 1 Lib.deBruijn64tab w'
theorem Tabs.on {B : Nat} {w w1 : World} (h : Tabs B w) (hb : Below B w w1) : Tabs B w1 := ⟨h.1.on hb, fun w' h' => h.2 w' (hb.trans h')⟩
theorem Tabs.up {B C : Nat} {w : World} (h : Tabs B w) (hb : B ≤ C) : Tabs C w := ⟨fun w' h' => h.1 w' (h'.mono hb), fun w' h' => h.2 w' (h'.mono hb)⟩

theorem infoByte : (Tryz.prog.info? 5).map (fun i => (i.zero, i.size, i.bytes)) = some (some (.int .u8 0), 1, 1) := by kernel_rfl

theorem gq (L : List UInt8) (W : World) (a b : Operand) : (eqGuard .neq 9 a b (str L) (.string { data := #[] })).run Tryz.prog W = .ok () W := by
  simp [eqGuard, str]
theorem neq_run (L : List UInt8) (W : World) : (binOp .neq 9 (str L) (.string { data := #[] })).run Tryz.prog W = .ok (.bool !(L == [])) W := by
  have e : binOp .neq 9 (str L) (.string { data := #[] }) = pure (.bool !(L == [])) := by
    unfold str
    rw [binOp_string_neq, ByteArray.toList_eq, ByteArray.toList_eq]
  rw [e]; rfl
theorem neq_yes (L : List UInt8) (h : L ≠ []) (W : World) : (binOp .neq 9 (str L) (.string { data := #[] })).run Tryz.prog W = .ok (.bool true) W := by
  rw [neq_run, beq_eq_false_iff_ne.2 h]; rfl

set_option maxHeartbeats 1000000 in
theorem appendFloat_word (B n x : Nat) (hx : B64 x) (hw : wordT x ≠ []) (hl : (wordT x).length ≤ 60) (sv : Value) (xs : List Value) (w : World) (hown : w.ownsRow B 5 1 sv n xs) (hBw : B ≤ w.heap.size) (hn : n ≤ 1000) :
    Calls Tryz.prog 29 #[sv, .float .f64 x] w fun e w' => ∃ v', e = .returned v' ∧ w'.ownsRow B 5 1 v' (n + (wordT x).length) (xs ++ Lib.byteCells (wordT x)) ∧ Below B w w' := by
  obtain ⟨i0, hi, hz0, hz1, hz2⟩ := info_parts infoByte
  have f := floatWord_any x hx
  generalize wordT x = L at *
  have nq := neq_yes L hw
  have gq := gq L
  have hsz : (⟨L.toArray⟩ : ByteArray).size = L.length := by simp [ByteArray.size]
  go_enter Tryz.func29, Tryz.ntmps29
  go_wp2_with (first | (go_at_call 43; refine (f _).mono ?_; rintro e w1 ⟨rfl, hw1⟩; obtain rfl := hw1.symm) | (at_builtin; refine Lib.wpList_append_own_string _ rfl _ _ 22 9 rfl B 5 i0 Tryz.underlying22 Tryz.underlying9 hi hz0 hz1 hz2 sv n xs rfl hown ⟨L.toArray⟩ rfl (by rw [hsz]; unfold maxLen; omega) (by rw [hsz]; omega) hBw ?_; intro v2 w2 hown2 hgrow _))
  go_ret
  rw [hsz] at hown2
  exact ⟨v2, rfl, hown2, (Below.refl B w).grown hgrow hBw (fun k hk => (hown.lt k hk).1)⟩

theorem itoa_sgn (neg : Bool) (c : Nat) (h : 0 < c) : Lib.itoa (if neg then -(c : Int) else (c : Int)) = (if neg then [45] else []) ++ Lib.itoa (c : Int) := by
  cases neg
  · rfl
  · simp only [if_true]
    unfold Lib.itoa
    rw [if_pos (by omega), if_neg (by omega)]
    simp

set_option maxHeartbeats 1000000 in
theorem appendFloat_num (B n : Nat) (neg : Bool) (r : Nat) (h0 : 0 < r) (hr : r < double.infRung) (hw : wordT (double.word neg r) = []) (sv : Value) (xs : List Value) (w : World) (hown : w.ownsRow B 5 1 sv n xs) (hBw : B ≤ w.heap.size) (hn : n ≤ 1000) (hT : Tabs B w) :
    Calls Tryz.prog 29 #[sv, .float .f64 (double.word neg r)] w fun e w' => ∃ v', e = .returned v' ∧ w'.ownsRow B 5 1 v' (n + ((if neg then [45] else []) ++ posT r).length) (xs ++ Lib.byteCells ((if neg then [45] else []) ++ posT r)) ∧ Below B w w' := by
  obtain ⟨i0, hi, hz0, hz1, hz2⟩ := info_parts infoByte
  have f := floatWord_any _ (word_B64 neg r hr)
  rw [hw] at f
  have od := oddTimes_any neg r h0 hr
  obtain ⟨hod, ho, hc, hk⟩ := big_odd r h0 hr
  have hposT : (if neg then [45] else []) ++ posT r = Lib.itoa (if neg then -((cOf (bigR double r) : Nat) : Int) else ((cOf (bigR double r) : Nat) : Int)) ++ [112] ++ Lib.itoa (((kOf (bigR double r) : Nat) : Int) - 1074) := by
    rw [itoa_sgn neg _ (by omega)]
    unfold posT
    simp only [List.append_assoc]
  rw [hposT]
  have a0 : -9223372036854775808 ≤ (if neg then -((cOf (bigR double r) : Nat) : Int) else ((cOf (bigR double r) : Nat) : Int)) := by split <;> omega
  have a1 : (if neg then -((cOf (bigR double r) : Nat) : Int) else ((cOf (bigR double r) : Nat) : Int)) ≤ 9223372036854775807 := by split <;> omega
  have b0 : -9223372036854775808 ≤ ((kOf (bigR double r) : Nat) : Int) - 1074 := by omega
  have b1 : ((kOf (bigR double r) : Nat) : Int) - 1074 ≤ 9223372036854775807 := by omega
  clear hposT hod ho hc hk hw
  generalize (if neg then -((cOf (bigR double r) : Nat) : Int) else ((cOf (bigR double r) : Nat) : Int)) = a at *
  generalize ((kOf (bigR double r) : Nat) : Int) - 1074 = b at *
  generalize double.word neg r = x at *
  have la := Lib.itoa_length_le a a0 a1
  have lb := Lib.itoa_length_le b b0 b1
  have nq : ∀ W, (binOp .neq 9 (str []) (.string { data := #[] })).run Tryz.prog W = .ok (.bool false) W := fun W => neq_run [] W
  have gq := gq []
  go_enter Tryz.func29, Tryz.ntmps29
  go_wp2_with (first | (go_at_call 43; refine (f _).mono ?_; rintro e w1 ⟨rfl, hw1⟩; obtain rfl := hw1.symm) | (go_at_call 44; refine (od w (hT.2 w (Below.refl _ _))).mono ?_; rintro e w1 ⟨rfl, hw1⟩; obtain rfl := hw1.symm) | (go_at_call 31; refine (Tryz.strconv_AppendInt_10 B n a a0 a1 sv xs w hown hBw (by omega) hT.1).mono ?_; rintro e w1 ⟨v1, rfl, hown1, hnx1, -⟩; refine Hid.out ?_))
  refine hide ?_
  go_wp2_with (at_builtin; refine wpList_append_own _ rfl _ _ 22 rfl B 5 i0 (.int .u8 0) 1 1 Tryz.underlying22 hi hz0 hz1 hz2 rfl (by decide) _ _ _ rfl (hown1.alloc _) ⟨w1.heap.size, 0, none⟩ 1 1 [Value.int .u8 112] rfl rfl (by intro j u' hj; match j, hj with | 0, hj => simp at hj; subst hj; simp [Addr.add]) (by intro u' hu'; simp at hu'; subst hu'; rfl) (by unfold maxLen; omega) (by omega) (by have := hnx1.size; simp; omega) ?_)
  intro v2 w2 hown2 hgrow _
  have hnx2 : Below B w w2 := (hnx1.alloc (by have := hnx1.size; omega) _).grown hgrow (by have := hnx1.size; simp; omega) (fun k hk => (hown1.lt k hk).1)
  go_wp2_with (go_at_call 31; refine (Tryz.strconv_AppendInt_10 B _ b b0 b1 v2 _ w2 hown2 (by have := hnx2.size; omega) (by omega) (hT.on hnx2).1).mono ?_; rintro e w3 ⟨v3, rfl, hown3, hnx3, -⟩)
  go_ret
  refine ⟨v3, rfl, ?_, hnx2.trans hnx3⟩
  have eL : xs ++ (Lib.byteCells (Lib.itoa a) ++ [Value.int .u8 112]) ++ Lib.byteCells (Lib.itoa b) = xs ++ Lib.byteCells (Lib.itoa a ++ [112] ++ Lib.itoa b) := by simp [Lib.byteCells]
  have eN : n + (Lib.itoa a).length + 1 + (Lib.itoa b).length = n + (Lib.itoa a ++ [112] ++ Lib.itoa b).length := by simp; omega
  rw [← eL, ← eN]
  exact hown3

theorem appendFloat_any (B n x : Nat) (hx : B64 x) (sv : Value) (xs : List Value) (w : World) (hown : w.ownsRow B 5 1 sv n xs) (hBw : B ≤ w.heap.size) (hn : n ≤ 1000) (hT : Tabs B w) :
    Calls Tryz.prog 29 #[sv, .float .f64 x] w fun e w' => ∃ v', e = .returned v' ∧ w'.ownsRow B 5 1 v' (n + (fltT x).length) (xs ++ Lib.byteCells (fltT x)) ∧ Below B w w' := by
  rcases fltT_word x hx with ⟨h1, h2⟩ | ⟨h1, neg, r, h3, h4, h5, h6⟩
  · have hl := fltT_len x hx
    rw [h2] at hl ⊢
    exact appendFloat_word B n x hx h1 hl sv xs w hown hBw hn
  · rw [h6]
    subst h5
    exact appendFloat_num B n neg r h3 h4 h1 sv xs w hown hBw hn hT
end Go.Proofs.YtdmbpkcjladhdaaGreatDoor
