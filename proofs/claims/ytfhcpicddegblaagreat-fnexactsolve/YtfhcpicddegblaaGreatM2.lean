import Derived.Test.YtfhcpicddegblaaGreatCells3
import Derived.Laws.DeepNot64
import Derived.Test.YtfhcpicddegblaaGreatM1
import Derived.RegionTactic
namespace Go.Proofs.YtfhcpicddegblaaGreat
open Go.RowKit FL
set_option linter.unusedSimpArgs false
set_option linter.unusedVariables false


theorem run_float64frombits (x : Int) (w : World) : (callFunc 142 #[.int .u64 x]).run Tryz.prog w = .ok (.value (.float .f64 x.toNat)) w := by
  rw [run_callFunc_extern Tryz.func142 (by kernel_rfl) (by kernel_rfl) (by kernel_rfl) (e := Extern.MathFloatBits.float64frombits) (by kernel_rfl)]; rfl

@[go_sem] theorem unary_neg_float (k : FloatKind) (b : Nat) : Op.unary .neg (.float k b) = pure (.float k (Op.negFloat k b)) := rfl
@[go_sem] theorem unary_neg_complex (k : FloatKind) (a b : Nat) : Op.unary .neg (.complex k a b) = pure (.complex k (Op.negFloat k a) (Op.negFloat k b)) := rfl

theorem neg_flip (x : Nat) (h : B64 x) : Op.negFloat .f64 x = FL.flip x := by
  unfold B64 at h
  have e : Op.negFloat .f64 x = x ^^^ 2 ^ 63 := rfl
  rw [e]
  have h1 : (x ^^^ 2 ^ 63) / 2 ^ 63 = (x / 2 ^ 63) ^^^ (2 ^ 63 / 2 ^ 63) := Nat.xor_div_two_pow
  have h2 : (x ^^^ 2 ^ 63) % 2 ^ 63 = (x % 2 ^ 63) ^^^ (2 ^ 63 % 2 ^ 63) := Nat.xor_mod_two_pow
  have h3 := Nat.div_add_mod (x ^^^ 2 ^ 63) (2 ^ 63)
  rw [h1, h2] at h3
  rw [← h3]
  unfold FL.flip
  by_cases hx : x < 9223372036854775808
  · have e1 : x / 2 ^ 63 = 0 := by omega
    rw [if_pos hx, e1]
    have e2 : x % 2 ^ 63 = x := by omega
    rw [e2]
    simp; omega
  · have e1 : x / 2 ^ 63 = 1 := by omega
    rw [if_neg hx, e1]
    have e2 : x % 2 ^ 63 = x - 9223372036854775808 := by omega
    rw [e2]
    simp

theorem run_arith_none (P : Program) (w : World) (op : BinOp) (t : TypeId) (k : FloatKind) (x y : Nat) (hop : op = .add ∨ op = .sub ∨ op = .mul ∨ op = .quo) (h : floatBits op k x y = none) :
    (binOp op t (.float k x) (.float k y)).run P w = .ok (.float k ((Question.nanBits k x y).cut (w.tape w.drawn (Question.nanBits k x y)))) w.drew := by
  unfold floatBits at h
  rcases hop with rfl | rfl | rfl | rfl <;> simp only at h <;> simp [binOp, Op.floatArith, h, run_choose_drew, Question.forced]

theorem nanBits_cut (x y t : Nat) : nanD ((Question.nanBits .f64 x y).cut t) = true ∧ (Question.nanBits .f64 x y).cut t < 18446744073709551616 := by
  rw [nanD_iff]
  simp only [Question.cut]
  rcases Nat.mod_two_eq_zero_or_one t with h | h <;> rw [h] <;> omega

theorem flip_lt (x : Nat) (h : B64 x) : B64 (FL.flip x) := by
  unfold B64 FL.flip at *
  split <;> omega
theorem flip_nan (x : Nat) (h : B64 x) : nanD (FL.flip x) = nanD x := by
  unfold B64 at h
  have h1 := nanD_iff x
  have h2 := nanD_iff (FL.flip x)
  rw [Bool.eq_iff_iff, h1, h2]
  unfold FL.flip
  split <;> omega

theorem l1Negate_any (x : Nat) (h : B64 x) (w : World) :
    Calls Tryz.prog 107 #[.float .f64 x] w fun e w' => ∃ r n, e = .returned (.float .f64 r) ∧ sameB r (FL.flip x) = true ∧ B64 r ∧ w' = w.drewN n := by
  cases hn : nanD x
  · have c1 := run_float_arith (P := Tryz.prog) w .mul 64 .f64 13830554455654793216 x (FL.flip x) (neg_mul x h hn)
    go_enter Tryz.func107, Tryz.ntmps107
    go_wp2
    go_ret
    exact ⟨_, 0, rfl, same_self _, flip_lt x h, rfl⟩
  · have c1 := run_arith_none Tryz.prog w .mul 64 .f64 13830554455654793216 x (by simp) (by
      show Ieee.double.mul _ _ = none
      unfold Ieee.Format.mul
      rw [read_nan Ieee.double x (by rw [dW, dI]; exact (nanD_iff x).1 hn) dBI]
      cases Ieee.double.read 13830554455654793216 <;> rfl)
    have hq := nanBits_cut 13830554455654793216 x (w.tape w.drawn (Question.nanBits .f64 13830554455654793216 x))
    generalize (Question.nanBits .f64 13830554455654793216 x).cut (w.tape w.drawn (Question.nanBits .f64 13830554455654793216 x)) = r at *
    go_enter Tryz.func107, Tryz.ntmps107
    go_wp2
    go_ret
    exact ⟨r, 1, rfl, by unfold sameB; rw [hq.1, flip_nan x h, hn]; rfl, hq.2, rfl⟩

def absF (x : Nat) : Nat := x % 9223372036854775808
theorem and_hi (x : Nat) (h : B64 x) : (bits BinOp.andNot IntKind.u64 (x : Int) 9223372036854775808).toNat = absF x := by
  unfold B64 at h
  unfold absF
  have e : (BitVec.ofInt 64 (x : Int) &&& ~~~ BitVec.ofInt 64 9223372036854775808).toNat = x % 9223372036854775808 := by
    rw [show (~~~ BitVec.ofInt 64 9223372036854775808) = BitVec.ofNat 64 (2 ^ 63 - 1) by decide]
    rw [BitVec.toNat_and, BitVec.toNat_ofNat]
    have h1 : (BitVec.ofInt 64 (x : Int)).toNat = x := by
      rw [BitVec.toNat_ofInt]; omega
    rw [h1, show (2 ^ 63 - 1) % 2 ^ 64 = 2 ^ 63 - 1 by decide, Nat.and_two_pow_sub_one_eq_mod]
  show (IntKind.u64.wrap ((BitVec.ofInt 64 (x : Int) &&& ~~~ BitVec.ofInt 64 9223372036854775808).toNat : Int)).toNat = _
  rw [e, IntKind.wrap_u64]
  omega

theorem abs_any (x : Nat) (h : B64 x) (w : World) :
    Calls Tryz.prog 123 #[.float .f64 x] w fun e w' => e = .returned (.float .f64 (absF x)) ∧ w' = w := by
  have hb := run_float64bits x
  have hc := run_float64frombits
  have ha := and_hi x h
  go_enter Tryz.func123, Tryz.ntmps123
  go_wp2
  go_ret
  exact ⟨rfl, rfl⟩

/-- What a float operation gives, and how many draws it makes. -/
def arR (op : BinOp) (x y : Nat) (w : World) : Nat := match floatBits op .f64 x y with
  | some r => r
  | none => (Question.nanBits .f64 x y).cut (w.tape w.drawn (Question.nanBits .f64 x y))
def arN (op : BinOp) (x y : Nat) : Nat := match floatBits op .f64 x y with
  | some _ => 0
  | none => 1

theorem run_ar (P : Program) (w : World) (op : BinOp) (t : TypeId) (x y : Nat) (hop : op = .add ∨ op = .sub ∨ op = .mul ∨ op = .quo) :
    (binOp op t (.float .f64 x) (.float .f64 y)).run P w = .ok (.float .f64 (arR op x y w)) (w.drewN (arN op x y)) := by
  unfold arR arN
  cases h : floatBits op .f64 x y with
  | some r => exact run_float_arith w op t .f64 x y r h
  | none => exact run_arith_none P w op t .f64 x y hop h
theorem run_ar_add (P : Program) (w : World) (t : TypeId) (x y : Nat) : (binOp .add t (.float .f64 x) (.float .f64 y)).run P w = .ok (.float .f64 (arR .add x y w)) (w.drewN (arN .add x y)) := run_ar P w .add t x y (by simp)
theorem run_ar_sub (P : Program) (w : World) (t : TypeId) (x y : Nat) : (binOp .sub t (.float .f64 x) (.float .f64 y)).run P w = .ok (.float .f64 (arR .sub x y w)) (w.drewN (arN .sub x y)) := run_ar P w .sub t x y (by simp)
theorem run_ar_mul (P : Program) (w : World) (t : TypeId) (x y : Nat) : (binOp .mul t (.float .f64 x) (.float .f64 y)).run P w = .ok (.float .f64 (arR .mul x y w)) (w.drewN (arN .mul x y)) := run_ar P w .mul t x y (by simp)
theorem run_ar_quo (P : Program) (w : World) (t : TypeId) (x y : Nat) : (binOp .quo t (.float .f64 x) (.float .f64 y)).run P w = .ok (.float .f64 (arR .quo x y w)) (w.drewN (arN .quo x y)) := run_ar P w .quo t x y (by simp)

theorem arR_lt (op : BinOp) (x y : Nat) (w : World) : B64 (arR op x y w) := by
  unfold arR B64
  cases h : floatBits op .f64 x y with
  | some r =>
    have := floatBits_wf h
    simpa [Lit.wf] using this
  | none => exact (nanBits_cut x y _).2
theorem ofInt_lt (n : Int) : B64 (floatOfInt .f64 n) := by
  have := floatOfInt_wf .f64 n
  simpa [Lit.wf, B64] using this

section
attribute [local go_sem] run_ar_add run_ar_sub run_ar_mul run_ar_quo
end
/-- What a float operation gives, a NaN for every NaN. -/
def aNaN : Nat := 9221120237041090561
theorem aNaN_nan : nanD aNaN = true := by decide
def fop (op : BinOp) (x y : Nat) : Nat := (floatBits op .f64 x y).getD aNaN

theorem same_iff (a b : Nat) : sameB a b = true ↔ (nanD a = true ∧ nanD b = true) ∨ (nanD a = false ∧ a = b) := by
  unfold sameB
  cases ha : nanD a <;> cases hb : nanD b <;> simp
  · intro e; rw [e, hb] at ha; cases ha
theorem same_symm {a b : Nat} (h : sameB a b = true) : sameB b a = true := by
  rw [same_iff] at h ⊢
  rcases h with ⟨h1, h2⟩ | ⟨h1, rfl⟩
  · exact .inl ⟨h2, h1⟩
  · exact .inr ⟨h1, rfl⟩
theorem same_trans {a b c : Nat} (h : sameB a b = true) (g : sameB b c = true) : sameB a c = true := by
  rw [same_iff] at h g ⊢
  rcases h with ⟨h1, h2⟩ | ⟨h1, rfl⟩
  · rcases g with ⟨g1, g2⟩ | ⟨g1, rfl⟩
    · exact .inl ⟨h1, g2⟩
    · rw [h2] at g1; cases g1
  · exact g
theorem same_nan {a b : Nat} (h : sameB a b = true) : nanD a = nanD b := by
  rw [same_iff] at h
  rcases h with ⟨h1, h2⟩ | ⟨h1, rfl⟩
  · rw [h1, h2]
  · rfl

theorem nan_read (x : Nat) (h : nanD x = true) : ∃ s p, Ieee.double.read x = .nan s p := by
  have := read_nan Ieee.double x (by rw [dW, dI]; exact (nanD_iff x).1 h) dBI
  exact ⟨_, _, this⟩
theorem fb_nan (op : BinOp) (x y : Nat) (h : nanD x = true ∨ nanD y = true) : floatBits op .f64 x y = none := by
  have : ∀ d e : Ieee.Datum, (d.isNaN = true ∨ e.isNaN = true) → d.sum e = none ∧ d.product e = none ∧ d.quotient 54 e = none := by
    intro d e h
    cases d <;> cases e <;> simp [Ieee.Datum.isNaN] at h <;> simp [Ieee.Datum.sum, Ieee.Datum.product, Ieee.Datum.quotient]
  have hn : (Ieee.double.read x).isNaN = true ∨ (Ieee.double.read y).isNaN = true := by
    rcases h with h | h
    · obtain ⟨s, p, e⟩ := nan_read x h; left; rw [e]; rfl
    · obtain ⟨s, p, e⟩ := nan_read y h; right; rw [e]; rfl
  have ho : (Ieee.double.read x).isNaN = true ∨ (Ieee.double.read y).opposite.isNaN = true := by
    rcases hn with h | h
    · exact .inl h
    · right; cases hd : Ieee.double.read y <;> rw [hd] at h <;> first | (simp [Ieee.Datum.isNaN] at h; done) | rfl
  cases op <;> try rfl
  · show ((Ieee.double.read x).sum (Ieee.double.read y)).map _ = none
    rw [(this _ _ hn).1]; rfl
  · show ((Ieee.double.read x).sum (Ieee.double.read y).opposite).map _ = none
    rw [(this _ _ ho).1]; rfl
  · show ((Ieee.double.read x).product (Ieee.double.read y)).map _ = none
    rw [(this _ _ hn).2.1]; rfl
  · show ((Ieee.double.read x).quotient 54 (Ieee.double.read y)).map _ = none
    rw [(this _ _ hn).2.2]; rfl

theorem fop_congr (op : BinOp) {x y x' y' : Nat} (hx : sameB x x' = true) (hy : sameB y y' = true) : sameB (fop op x y) (fop op x' y') = true := by
  have nx := same_nan hx
  have ny := same_nan hy
  cases h1 : nanD x
  · cases h2 : nanD y
    · have e1 : x = x' := by rcases (same_iff _ _).1 hx with ⟨a, _⟩ | ⟨_, a⟩; (rw [a] at h1; cases h1); exact a
      have e2 : y = y' := by rcases (same_iff _ _).1 hy with ⟨a, _⟩ | ⟨_, a⟩; (rw [a] at h2; cases h2); exact a
      rw [e1, e2]; exact same_self _
    · unfold fop
      rw [fb_nan op x y (.inr h2), fb_nan op x' y' (.inr (by rw [← ny]; exact h2))]
      exact same_self _
  · unfold fop
    rw [fb_nan op x y (.inl h1), fb_nan op x' y' (.inl (by rw [← nx]; exact h1))]
    exact same_self _
theorem arR_fop (op : BinOp) (x y : Nat) (w : World) : sameB (arR op x y w) (fop op x y) = true := by
  unfold arR fop
  cases h : floatBits op .f64 x y with
  | some r => exact same_self _
  | none => exact (same_iff _ _).2 (.inl ⟨(nanBits_cut x y _).1, aNaN_nan⟩)
theorem arR_same (op : BinOp) {x y x' y' : Nat} (w : World) (hx : sameB x x' = true) (hy : sameB y y' = true) : sameB (arR op x y w) (fop op x' y') = true :=
  same_trans (arR_fop op x y w) (fop_congr op hx hy)

theorem flt_congr {x y x' y' : Nat} (hx : sameB x x' = true) (hy : sameB y y' = true) : flt x y = flt x' y' := by
  rcases (same_iff _ _).1 hx with ⟨a, b⟩ | ⟨_, rfl⟩
  · unfold flt; rw [a, b]; rfl
  · rcases (same_iff _ _).1 hy with ⟨a, b⟩ | ⟨_, rfl⟩
    · unfold flt; rw [a, b]; simp
    · rfl
theorem feq_congr {x y x' y' : Nat} (hx : sameB x x' = true) (hy : sameB y y' = true) : feq x y = feq x' y' := by
  rcases (same_iff _ _).1 hx with ⟨a, b⟩ | ⟨_, rfl⟩
  · unfold feq; rw [a, b]; rfl
  · rcases (same_iff _ _).1 hy with ⟨a, b⟩ | ⟨_, rfl⟩
    · unfold feq; rw [a, b]; simp
    · rfl
/-- Lists of floats that are the same but for the NaNs' bits. -/
def SmL (l l' : List Nat) : Prop := l.length = l'.length ∧ ∀ i, sameB (l.getD i 0) (l'.getD i 0) = true
theorem SmL.refl (l : List Nat) : SmL l l := ⟨rfl, fun _ => same_self _⟩
theorem SmL.len {l l' : List Nat} (h : SmL l l') : l.length = l'.length := h.1
theorem SmL.at {l l' : List Nat} (h : SmL l l') (i : Nat) : sameB (l.getD i 0) (l'.getD i 0) = true := h.2 i
theorem SmL.symm {l l' : List Nat} (h : SmL l l') : SmL l' l := ⟨h.1.symm, fun i => same_symm (h.2 i)⟩
theorem SmL.trans {l l' l'' : List Nat} (h : SmL l l') (g : SmL l' l'') : SmL l l'' := ⟨h.1.trans g.1, fun i => same_trans (h.2 i) (g.2 i)⟩
theorem getD_set {α : Type} (l : List α) (i j : Nat) (a d : α) : (l.set i a).getD j d = if i = j ∧ j < l.length then a else l.getD j d := by
  simp only [List.getD_eq_getElem?_getD, List.getElem?_set]
  by_cases h : i = j
  · subst h
    by_cases hl : i < l.length
    · simp [hl]
    · simp [hl]
  · simp [h]
theorem SmL.set {l l' : List Nat} (h : SmL l l') (i : Nat) {a a' : Nat} (ha : sameB a a' = true) : SmL (l.set i a) (l'.set i a') := by
  refine ⟨by simp [h.1], fun j => ?_⟩
  rw [getD_set, getD_set, h.1]
  split
  · exact ha
  · exact h.2 j
theorem getD_get {α : Type} (l : List α) (d : α) {i : Nat} (h : i < l.length) : l.getD i d = l[i] := by simp [List.getD_eq_getElem?_getD, h]
theorem getD_ext {α : Type} (l l' : List α) (d : α) (hl : l.length = l'.length) (h : ∀ i, i < l.length → l.getD i d = l'.getD i d) : l = l' := by
  refine List.ext_getElem hl fun i h1 h2 => ?_
  have := h i h1
  rwa [getD_get _ _ h1, getD_get _ _ h2] at this
theorem getD_mapIdx {α β : Type} (f : Nat → α → β) (l : List α) (j : Nat) (d : α) (e : β) (h : j < l.length) : (l.mapIdx f).getD j e = f j (l.getD j d) := by
  rw [getD_get _ _ (by simpa using h), getD_get _ _ h]
  simp

/-- The pivot's row, when m rows below row k have been looked at. -/
def pivN (c : Nat → Nat) (k : Nat) : Nat → Nat
  | 0 => k
  | m + 1 => if flt (absF (c (pivN c k m))) (absF (c (k + 1 + m))) then k + 1 + m else pivN c k m
theorem pivN_le (c : Nat → Nat) (k m : Nat) : k ≤ pivN c k m ∧ pivN c k m ≤ k + m := by
  induction m with
  | zero => exact ⟨Nat.le_refl _, by simp [pivN]⟩
  | succ m ih => unfold pivN; split <;> omega

/-- Row i with a multiple of row k taken off in the columns behind k and below t. -/
def subTo (m : Nat) (rk ri : List Nat) (k t : Nat) : List Nat := ri.mapIdx fun j x => if k < j ∧ j < t then fop .sub x (fop .mul m (rk.getD j 0)) else x
theorem subTo_len (m : Nat) (rk ri : List Nat) (k t : Nat) : (subTo m rk ri k t).length = ri.length := by simp [subTo]
theorem subTo_first (m : Nat) (rk ri : List Nat) (k : Nat) : subTo m rk ri k (k + 1) = ri := by
  refine getD_ext _ _ 0 (subTo_len ..) fun i hi => ?_
  rw [subTo_len] at hi
  unfold subTo
  rw [getD_mapIdx _ _ _ 0 _ hi, if_neg (by omega)]
theorem subTo_at (m : Nat) (rk ri : List Nat) (k t : Nat) (h : t < ri.length) : (subTo m rk ri k t).getD t 0 = ri.getD t 0 := by
  unfold subTo
  rw [getD_mapIdx _ _ _ 0 _ h, if_neg (by omega)]
theorem subTo_next (m : Nat) (rk ri : List Nat) (k t : Nat) (hk : k < t) (h : t < ri.length) : subTo m rk ri k (t + 1) = (subTo m rk ri k t).set t (fop .sub ((subTo m rk ri k t).getD t 0) (fop .mul m (rk.getD t 0))) := by
  refine getD_ext _ _ 0 (by simp [subTo_len]) fun i hi => ?_
  rw [subTo_len] at hi
  rw [getD_set, subTo_at _ _ _ _ _ h, subTo_len]
  by_cases e : t = i
  · subst e
    rw [if_pos ⟨rfl, h⟩]
    unfold subTo
    rw [getD_mapIdx _ _ _ 0 _ hi, if_pos ⟨hk, by omega⟩]
  · rw [if_neg (by omega)]
    unfold subTo
    rw [getD_mapIdx _ _ _ 0 _ hi, getD_mapIdx _ _ _ 0 _ hi]
    by_cases h1 : k < i ∧ i < t
    · rw [if_pos (by omega), if_pos h1]
    · rw [if_neg (by omega), if_neg h1]

def swapL {α : Type} (l : List α) (i j : Nat) (d : α) : List α := (l.set i (l.getD j d)).set j (l.getD i d)
theorem swapL_len {α : Type} (l : List α) (i j : Nat) (d : α) : (swapL l i j d).length = l.length := by simp [swapL]
theorem swapL_getD {α : Type} (l : List α) (i j x : Nat) (d : α) (hi : i < l.length) (hj : j < l.length) : (swapL l i j d).getD x d = l.getD (if x = j then i else if x = i then j else x) d := by
  unfold swapL
  rw [getD_set, getD_set, List.length_set]
  by_cases h1 : j = x
  · subst h1; rw [if_pos ⟨rfl, hj⟩, if_pos rfl]
  · rw [if_neg (fun h => h1 h.1), if_neg (c := x = j) (fun h => h1 h.symm)]
    by_cases h2 : i = x
    · subst h2; rw [if_pos ⟨rfl, hi⟩, if_pos rfl]
    · rw [if_neg (fun h => h2 h.1), if_neg (fun h => h2 h.symm)]

/-- A system: its rows and its right side. -/
abbrev Sys := List (List Nat) × List Nat
def Sys.at (s : Sys) (i j : Nat) : Nat := (s.1.getD i []).getD j 0
def Sys.rt (s : Sys) (i : Nat) : Nat := s.2.getD i 0
/-- A multiple of row k is taken off row i. -/
def Sys.sub (s : Sys) (i k : Nat) : Sys :=
  let m := fop .quo (s.at i k) (s.at k k)
  (s.1.set i (subTo m (s.1.getD k []) (s.1.getD i []) k s.1.length), s.2.set i (fop .sub (s.rt i) (fop .mul m (s.rt k))))
def Sys.subs (s : Sys) (k : Nat) : Nat → Sys
  | 0 => s
  | m + 1 => (s.subs k m).sub (k + 1 + m) k
def Sys.piv (s : Sys) (k : Nat) : Nat := pivN (fun i => s.at i k) k (s.1.length - k - 1)
def Sys.swap (s : Sys) (k p : Nat) : Sys := (swapL s.1 k p [], swapL s.2 k p 0)
def Sys.round (s : Sys) (k : Nat) : Option Sys :=
  let t := s.swap k (s.piv k)
  if nanD (t.at k k) || feq (t.at k k) 0 then none else some (t.subs k (s.1.length - k - 1))
def Sys.elim (s : Sys) : Nat → Option Sys
  | 0 => some s
  | k + 1 => (s.elim k).bind fun t => t.round k
/-- What is left of the right side of row i, when m known numbers have been taken off. -/
def Sys.rest (s : Sys) (x : List Nat) (i : Nat) : Nat → Nat
  | 0 => s.rt i
  | m + 1 => fop .sub (s.rest x i m) (fop .mul (s.at i (i + 1 + m)) (x.getD (i + 1 + m) 0))
/-- The unknowns, when the last m of them have been found. -/
def Sys.back (s : Sys) : Nat → List Nat
  | 0 => List.replicate s.1.length 0
  | m + 1 => (s.back m).set (s.1.length - 1 - m) (fop .quo (s.rest (s.back m) (s.1.length - 1 - m) m) (s.at (s.1.length - 1 - m) (s.1.length - 1 - m)))
/-- A system of n rows of n columns. -/
def Sys.Sq (s : Sys) (n : Nat) : Prop := s.1.length = n ∧ s.2.length = n ∧ ∀ i, i < n → (s.1.getD i []).length = n
theorem Sys.Sq.sub {s : Sys} {n : Nat} (h : s.Sq n) (i k : Nat) : (s.sub i k).Sq n := by
  refine ⟨by simp [Sys.sub, h.1], by simp [Sys.sub, h.2.1], fun j hj => ?_⟩
  show ((s.1.set i _).getD j []).length = n
  rw [getD_set]
  split
  · rename_i e; rw [subTo_len, e.1]; exact h.2.2 j hj
  · exact h.2.2 j hj
theorem Sys.Sq.subs {s : Sys} {n : Nat} (h : s.Sq n) (k m : Nat) : (s.subs k m).Sq n := by
  induction m with
  | zero => exact h
  | succ m ih => exact ih.sub _ _
theorem Sys.Sq.swap {s : Sys} {n : Nat} (h : s.Sq n) (k p : Nat) (hk : k < n) (hp : p < n) : (s.swap k p).Sq n := by
  refine ⟨by simp [Sys.swap, swapL_len, h.1], by simp [Sys.swap, swapL_len, h.2.1], fun j hj => ?_⟩
  show ((swapL s.1 k p []).getD j []).length = n
  rw [swapL_getD _ _ _ _ _ (by rw [h.1]; exact hk) (by rw [h.1]; exact hp)]
  split
  · exact h.2.2 k hk
  · split
    · exact h.2.2 p hp
    · exact h.2.2 j hj
theorem Sys.piv_le {s : Sys} {n : Nat} (h : s.Sq n) (k : Nat) (hk : k < n) : k ≤ s.piv k ∧ s.piv k < n := by
  have := pivN_le (fun i => s.at i k) k (s.1.length - k - 1)
  unfold Sys.piv
  rw [h.1] at this ⊢
  omega
theorem Sys.Sq.round {s t : Sys} {n k : Nat} (h : s.Sq n) (hk : k < n) (e : s.round k = some t) : t.Sq n := by
  unfold Sys.round at e
  simp only at e
  split at e
  · cases e
  · cases e; exact (h.swap k _ hk (Sys.piv_le h k hk).2).subs _ _
theorem Sys.Sq.elim {s t : Sys} {n k : Nat} (h : s.Sq n) (hk : k ≤ n) (e : s.elim k = some t) : t.Sq n := by
  induction k generalizing t with
  | zero => cases e; exact h
  | succ k ih =>
    simp only [Sys.elim, Option.bind_eq_some_iff] at e
    obtain ⟨u, e1, e2⟩ := e
    exact (ih (by omega) e1).round (by omega) e2
theorem Sys.back_len (s : Sys) (m : Nat) : (s.back m).length = s.1.length := by
  induction m with
  | zero => simp [Sys.back]
  | succ m ih => simp [Sys.back, ih]
/-- The floats L lie in block b from its first cell on, and may be written over. -/
structure FRow (w : World) (b : Nat) (L : List Nat) : Prop where
  cell : ∀ j, j < L.length → w.cell? ⟨b, j, none⟩ = some (.float .f64 (L.getD j 0))
  fz : ∀ o, w.frozen? ⟨b, o, none⟩ = false
  b64 : ∀ j, B64 (L.getD j 0)

theorem FRow.block {w w' : World} {b : Nat} {L : List Nat} (h : FRow w b L) (e : w'.heap[b]? = w.heap[b]?) : FRow w' b L :=
  ⟨fun j hj => (World.cell?_of_block (w := w) (a := ⟨b, j, none⟩) e).trans (h.cell j hj), fun o => (World.frozen?_of_block (w := w) (a := ⟨b, o, none⟩) e).trans (h.fz o), h.b64⟩
theorem FRow.set {w : World} {b : Nat} {L : List Nat} (h : FRow w b L) {k : Nat} (hk : k < L.length) {x : Nat} (hx : B64 x) : FRow (w.setCell ⟨b, k, none⟩ (.float .f64 x)) b (L.set k x) := by
  refine ⟨fun j hj => ?_, fun o => by rw [World.frozen?_setCell]; exact h.fz o, fun j => ?_⟩
  · rw [List.length_set] at hj
    have := h.cell k hk
    by_cases e : j = k
    · subst e
      rw [getD_set, if_pos ⟨rfl, hk⟩]
      go_simp
    · rw [getD_set, if_neg (fun q => e q.1.symm), ← h.cell j hj]
      go_simp
  · rw [getD_set]
    split
    · exact hx
    · exact h.b64 j

/-- Of what was there only the blocks with p may have turned; new blocks and draws. -/
structure MutP (p : Nat → Prop) (w w' : World) : Prop where
  os : w'.os = w.os
  tape : w'.tape = w.tape
  output : w'.output = w.output
  size : w.heap.size ≤ w'.heap.size
  block : ∀ k, k < w.heap.size → ¬ p k → w'.heap[k]? = w.heap[k]?
  fz : ∀ a, w'.frozen? a = w.frozen? a
theorem MutP.refl (p : Nat → Prop) (w : World) : MutP p w w := ⟨rfl, rfl, rfl, Nat.le_refl _, fun _ _ _ => rfl, fun _ => rfl⟩
theorem MutP.trans {p : Nat → Prop} {a c d : World} (h : MutP p a c) (k : MutP p c d) : MutP p a d :=
  ⟨k.os.trans h.os, k.tape.trans h.tape, k.output.trans h.output, Nat.le_trans h.size k.size, fun i hi hn => (k.block i (Nat.lt_of_lt_of_le hi h.size) hn).trans (h.block i hi hn), fun a => (k.fz a).trans (h.fz a)⟩
theorem MutP.mono {p q : Nat → Prop} {a c : World} (h : MutP p a c) (hp : ∀ k, p k → q k) : MutP q a c := ⟨h.os, h.tape, h.output, h.size, fun k hk hn => h.block k hk (fun e => hn (hp k e)), h.fz⟩
theorem Mut.mutP {b : Nat} {p : Nat → Prop} {a c : World} (h : Mut b a c) (hp : p b) : MutP p a c := ⟨h.os, h.tape, h.output, h.size, fun k hk hn => h.block k hk (fun e => hn (by rw [e]; exact hp)), h.fz⟩
theorem Ext.mutP {a c : World} (h : Ext a c) (p : Nat → Prop) : MutP p a c := ⟨h.bl.os, h.bl.tape, h.bl.output, h.bl.size, fun k hk _ => h.bl.block k hk, h.fz⟩
theorem MutP.box {p : Nat → Prop} {W w1 : World} (h : MutP p W w1) {k o : Nat} {v : Value} (hk : ¬ p k) (hc : W.cell? ⟨k, o, none⟩ = some v) : w1.cell? ⟨k, o, none⟩ = some v := by
  rw [← hc]
  exact World.cell?_of_block (w := W) (a := ⟨k, o, none⟩) (h.block k (cell_lt hc) hk)

/-- Systems that are the same but for the NaNs' bits. -/
def SmS (s t : Sys) : Prop := s.1.length = t.1.length ∧ (∀ i, SmL (s.1.getD i []) (t.1.getD i [])) ∧ SmL s.2 t.2
theorem SmS.at {s t : Sys} (h : SmS s t) (i j : Nat) : sameB (s.at i j) (t.at i j) = true := (h.2.1 i).at j
theorem SmS.rt {s t : Sys} (h : SmS s t) (i : Nat) : sameB (s.rt i) (t.rt i) = true := h.2.2.at i
/-- The system s lies in memory: the rows' slices in block g, the rows in the blocks bs, the right side in block h. -/
structure SysIn (w : World) (g h n : Nat) (bs : List Nat) (s : Sys) : Prop where
  sq : s.Sq n
  out : ∀ i, i < n → w.cell? ⟨g, i, none⟩ = some (.slice (some ⟨bs.getD i 0, 0, none⟩) n n)
  ofz : ∀ o, w.frozen? ⟨g, o, none⟩ = false
  row : ∀ i, i < n → FRow w (bs.getD i 0) (s.1.getD i [])
  rt : FRow w h s.2
  nd : ∀ i j, i < n → j < n → i ≠ j → bs.getD i 0 ≠ bs.getD j 0
  gb : ∀ i, i < n → bs.getD i 0 ≠ g
  hb : ∀ i, i < n → bs.getD i 0 ≠ h
  gh : g ≠ h
  len : bs.length = n
theorem SysIn.rowLen {w : World} {g h n : Nat} {bs : List Nat} {s : Sys} (H : SysIn w g h n bs s) {i : Nat} (hi : i < n) : (s.1.getD i []).length = n := H.sq.2.2 i hi
theorem SysIn.elt {w : World} {g h n : Nat} {bs : List Nat} {s : Sys} (H : SysIn w g h n bs s) {i j : Nat} (hi : i < n) (hj : j < n) : w.cell? ⟨bs.getD i 0, j, none⟩ = some (.float .f64 (s.at i j)) := (H.row i hi).cell j (by rw [H.rowLen hi]; exact hj)
theorem SysIn.lt {w : World} {g h n : Nat} {bs : List Nat} {s : Sys} (H : SysIn w g h n bs s) {i : Nat} (hi : i < n) : bs.getD i 0 < w.heap.size := cell_lt (H.elt hi hi)
theorem SysIn.blocks {w w' : World} {g h n : Nat} {bs : List Nat} {s : Sys} (H : SysIn w g h n bs s) (hg : w'.heap[g]? = w.heap[g]?) (hh : w'.heap[h]? = w.heap[h]?) (hb : ∀ i, i < n → w'.heap[bs.getD i 0]? = w.heap[bs.getD i 0]?) : SysIn w' g h n bs s :=
  ⟨H.sq, fun i hi => (World.cell?_of_block (w := w) (a := ⟨g, i, none⟩) hg).trans (H.out i hi), fun o => (World.frozen?_of_block (w := w) (a := ⟨g, o, none⟩) hg).trans (H.ofz o), fun i hi => (H.row i hi).block (hb i hi), H.rt.block hh, H.nd, H.gb, H.hb, H.gh, H.len⟩
/-- The rows' slices lie in block g. -/
theorem out_set {w : World} {g n k : Nat} {bs : List Nat} (h : ∀ i, i < n → w.cell? ⟨g, i, none⟩ = some (.slice (some ⟨bs.getD i 0, 0, none⟩) n n)) (hl : bs.length = n) (hk : k < n) (b : Nat) :
    ∀ i, i < n → (w.setCell ⟨g, k, none⟩ (.slice (some ⟨b, 0, none⟩) n n)).cell? ⟨g, i, none⟩ = some (.slice (some ⟨(bs.set k b).getD i 0, 0, none⟩) n n) := fun i hi => by
  by_cases e : i = k
  · subst e
    rw [World.cell?_setCell_same _ _ _ (h i hi), getD_set, if_pos ⟨rfl, by omega⟩]
  · rw [World.cell?_setCell_other _ _ _ _ (by intro q; simp only [Addr.mk.injEq] at q; omega), h i hi, getD_set, if_neg (fun q => e q.1.symm)]
theorem SysIn.swap {w w' : World} {g h n : Nat} {bs : List Nat} {s : Sys} (H : SysIn w g h n bs s) {k p : Nat} (hk : k < n) (hp : p < n)
    (ho : ∀ i, i < n → w'.cell? ⟨g, i, none⟩ = some (.slice (some ⟨(swapL bs k p 0).getD i 0, 0, none⟩) n n)) (hf : ∀ o, w'.frozen? ⟨g, o, none⟩ = false)
    (hb : ∀ i, i < n → w'.heap[bs.getD i 0]? = w.heap[bs.getD i 0]?) (hr : FRow w' h (swapL s.2 k p 0)) : SysIn w' g h n (swapL bs k p 0) (s.swap k p) := by
  have hl := H.len
  have hs := H.sq.1
  have e1 : ∀ i, i < n → ∃ j, j < n ∧ (swapL bs k p 0).getD i 0 = bs.getD j 0 ∧ (swapL s.1 k p []).getD i [] = s.1.getD j [] ∧ (j = if i = p then k else if i = k then p else i) := fun i hi => by
    refine ⟨if i = p then k else if i = k then p else i, by split <;> (try split) <;> omega, swapL_getD _ _ _ _ _ (by omega) (by omega), swapL_getD _ _ _ _ _ (by omega) (by omega), rfl⟩
  refine ⟨H.sq.swap k p hk hp, ho, hf, fun i hi => ?_, hr, fun i j hi hj hij => ?_, fun i hi => ?_, fun i hi => ?_, H.gh, by rw [swapL_len]; exact hl⟩
  · obtain ⟨j, hj, e, e', _⟩ := e1 i hi
    show FRow w' _ ((swapL s.1 k p []).getD i [])
    rw [e, e']
    exact (H.row j hj).block (hb j hj)
  · obtain ⟨i', hi', e, _, a⟩ := e1 i hi
    obtain ⟨j', hj', e', _, b⟩ := e1 j hj
    rw [e, e']
    refine H.nd i' j' hi' hj' ?_
    rw [a, b]
    split <;> split <;> (try split) <;> (try split) <;> omega
  · obtain ⟨j, hj, e, _⟩ := e1 i hi
    rw [e]; exact H.gb j hj
  · obtain ⟨j, hj, e, _⟩ := e1 i hi
    rw [e]; exact H.hb j hj
theorem SmL.swap {l l' : List Nat} (h : SmL l l') (k p : Nat) : SmL (swapL l k p 0) (swapL l' k p 0) := (h.set k (h.at p)).set p (h.at k)
theorem SmS.swap {s t : Sys} (h : SmS s t) {k p : Nat} (hk : k < s.1.length) (hp : p < s.1.length) : SmS (s.swap k p) (t.swap k p) := by
  refine ⟨by simp [Sys.swap, swapL_len, h.1], fun i => ?_, h.2.2.swap k p⟩
  show SmL ((swapL s.1 k p []).getD i []) ((swapL t.1 k p []).getD i [])
  rw [swapL_getD _ _ _ _ _ hk hp, swapL_getD _ _ _ _ _ (by rw [← h.1]; exact hk) (by rw [← h.1]; exact hp)]
  exact h.2.1 _
theorem SysIn.step {w w' : World} {g h n : Nat} {bs : List Nat} {s : Sys} (H : SysIn w g h n bs s) {i : Nat} (hi : i < n) {Cur R : List Nat} (hg : w'.heap[g]? = w.heap[g]?) (hc : FRow w' (bs.getD i 0) Cur) (hcl : Cur.length = n) (hr : FRow w' h R) (hrl : R.length = n) (hb : ∀ j, j < n → j ≠ i → w'.heap[bs.getD j 0]? = w.heap[bs.getD j 0]?) : SysIn w' g h n bs (s.1.set i Cur, R) := by
  refine ⟨⟨by simp [H.sq.1], hrl, fun j hj => ?_⟩, fun j hj => (World.cell?_of_block (w := w) (a := ⟨g, j, none⟩) hg).trans (H.out j hj), fun o => (World.frozen?_of_block (w := w) (a := ⟨g, o, none⟩) hg).trans (H.ofz o), fun j hj => ?_, hr, H.nd, H.gb, H.hb, H.gh, H.len⟩
  · show ((s.1.set i Cur).getD j []).length = n
    rw [getD_set]
    split
    · exact hcl
    · exact H.sq.2.2 j hj
  · show FRow w' (bs.getD j 0) ((s.1.set i Cur).getD j [])
    rw [getD_set]
    by_cases e : i = j
    · subst e
      rw [if_pos ⟨rfl, by rw [H.sq.1]; exact hi⟩]
      exact hc
    · rw [if_neg (fun q => e q.1)]
      exact (H.row j hj).block (hb j hj (Ne.symm e))
theorem SmS.step {s t : Sys} (h : SmS s t) {n i : Nat} (hs : s.1.length = n) {C C' R R' : List Nat} (hc : SmL C C') (hr : SmL R R') : SmS (s.1.set i C, R) (t.1.set i C', R') := by
  refine ⟨by simp [h.1], fun j => ?_, hr⟩
  show SmL ((s.1.set i C).getD j []) ((t.1.set i C').getD j [])
  rw [getD_set, getD_set, h.1]
  split
  · exact hc
  · exact h.2.1 j
section
attribute [local go_sem] run_ar_add run_ar_sub run_ar_mul run_ar_quo
set_option maxHeartbeats 2000000 in
theorem subtract_any {w : World} {g h n cg : Nat} {bs : List Nat} {s t : Sys} (H : SysIn w g h n bs s) (hst : SmS s t) (i k : Nat) (hi : i < n) (hk : k < n) (hik : i ≠ k) (hn : n ≤ 4096) :
    Calls Tryz.prog 87 #[.agg #[.slice (some ⟨g, 0, none⟩) n cg, .slice (some ⟨h, 0, none⟩) n n], .int .i64 i, .int .i64 k] w fun e w' => e = .returned (.tuple #[]) ∧ ∃ s', SysIn w' g h n bs s' ∧ SmS s' (t.sub i k) ∧ MutP (fun b => b = bs.getD i 0 ∨ b = h) w w' := by
  have x0 : Ext w (w.alloc (.cells #[.slice (some ⟨g, 0, none⟩) n cg, .slice (some ⟨h, 0, none⟩) n n] 94)) := (Ext.refl w).alloc _ _
  have n1 := fun j => new_cell w #[.slice (some ⟨g, 0, none⟩) n cg, .slice (some ⟨h, 0, none⟩) n n] 94 w.heap.size rfl j
  have c0 := n1 0
  have c1 := n1 1
  simp only [List.getElem?_toArray, List.getElem?_cons_zero, List.getElem?_cons_succ] at c0 c1
  have d1 := x0.box (H.out i hi)
  have d2 := x0.box (H.out k hk)
  have d3 := x0.box (H.elt hi hk)
  have d4 := x0.box (H.elt hk hk)
  have e0 : (0 : Int) ≤ (i : Int) := Int.natCast_nonneg _
  have e1 : (i : Int) < (n : Int) := by omega
  have e2 : (0 : Int) ≤ (k : Int) := Int.natCast_nonneg _
  have e3 : (k : Int) < (n : Int) := by omega
  have HH := hide H
  have HST := hide hst
  generalize hbi : bs.getD i 0 = bi at d1 d3
  generalize hbk : bs.getD k 0 = bk at d2 d4
  generalize hai : s.at i k = ai at d3
  generalize hak : s.at k k = ak at d4
  have Hbi := hide hbi
  have Hbk := hide hbk
  have Hai := hide hai
  have Hak := hide hak
  clear hbi hbk hai hak H hst n1
  have X0 := hide x0
  clear x0
  go_enter Tryz.func87, Tryz.ntmps87
  go_wp2_with fail
  go_region
  have hm : sameB (arR .quo ai ak (w.alloc (.cells #[.slice (some ⟨g, 0, none⟩) n cg, .slice (some ⟨h, 0, none⟩) n n] 94)).drew) (fop .quo (t.at i k) (t.at k k)) = true := arR_same .quo _ (by rw [← Hai.out]; exact HST.out.at i k) (by rw [← Hak.out]; exact HST.out.at k k)
  have hm64 := arR_lt .quo ai ak (w.alloc (.cells #[.slice (some ⟨g, 0, none⟩) n cg, .slice (some ⟨h, 0, none⟩) n n] 94)).drew
  generalize arR .quo ai ak (w.alloc (.cells #[.slice (some ⟨g, 0, none⟩) n cg, .slice (some ⟨h, 0, none⟩) n n] 94)).drew = m at hm hm64 ⊢
  have X1 := hide (X0.out.drewN (1 + arN .quo ai ak))
  generalize hW1 : (w.alloc (.cells #[.slice (some ⟨g, 0, none⟩) n cg, .slice (some ⟨h, 0, none⟩) n n] 94)).drewN (1 + arN .quo ai ak) = W1 at X1 ⊢
  have C0 : Hid (W1.cell? ⟨w.heap.size, 0, none⟩ = some (.slice (some ⟨g, 0, none⟩) n cg)) := by rw [← hW1]; exact c0
  have C1 : Hid (W1.cell? ⟨w.heap.size, 1, none⟩ = some (.slice (some ⟨h, 0, none⟩) n n)) := by rw [← hW1]; exact c1
  have D1 : Hid (W1.cell? ⟨g, i, none⟩ = some (.slice (some ⟨bi, 0, none⟩) n n)) := by rw [← hW1]; exact d1
  have D2 : Hid (W1.cell? ⟨g, k, none⟩ = some (.slice (some ⟨bk, 0, none⟩) n n)) := by rw [← hW1]; exact d2
  have Hm := hide hm
  have Hm64 := hide hm64
  clear hW1 c0 c1 d1 d2 d3 d4 X0 hm hm64
  go_wp2_with fail
  have hib : bi < w.heap.size := by rw [← Hbi.out]; exact HH.out.lt hi
  have hbg : g ≠ bi := by rw [← Hbi.out]; exact (HH.out.gb i hi).symm
  have hkb : bk ≠ bi := by rw [← Hbi.out, ← Hbk.out]; exact HH.out.nd k i hk hi (Ne.symm hik)
  have hri : Hid (FRow W1 bi (s.1.getD i [])) := by rw [← Hbi.out]; exact (HH.out.row i hi).block (X1.out.bl.block _ (HH.out.lt hi))
  have hrk : Hid (FRow W1 bk (s.1.getD k [])) := by rw [← Hbk.out]; exact (HH.out.row k hk).block (X1.out.bl.block _ (HH.out.lt hk))
  have hli := HH.out.rowLen hi
  have hlk := HH.out.rowLen hk
  go_loopw [7] (fun j wr => ∃ jn : Nat, j = .int .i64 jn ∧ k + 1 ≤ jn ∧ jn ≤ n ∧ ∃ Cur, Cur.length = n ∧ FRow wr bi Cur ∧ SmL Cur (subTo (fop .quo (t.at i k) (t.at k k)) (t.1.getD k []) (t.1.getD i []) k jn) ∧ Mut bi W1 wr) (fun j _ => n - (intOf j).toNat)
  case atStart => exact ⟨k + 1, by simp, by omega, by omega, s.1.getD i [], hli, hri.out, by rw [subTo_first]; exact HST.out.2.1 i, Mut.refl _ _⟩
  case round =>
    obtain ⟨jn, rfl, hj0, hj1, Cur, hcl, hcr, hcs, hmu⟩ := hrel
    have c0 := hmu.box (show w.heap.size ≠ bi by omega) C0.out
    have d1 := hmu.box hbg D1.out
    have d2 := hmu.box hbg D2.out
    have HCR := hide hcr
    have HCS := hide hcs
    have HMU := hide hmu
    by_cases hjn : jn < n
    · have hd : decide ((jn : Int) < (n : Int)) = true := decide_eq_true (by omega)
      have j0 : (0 : Int) ≤ (jn : Int) := Int.natCast_nonneg _
      have j1 : (jn : Int) < (n : Int) := by omega
      have d3 := hcr.cell jn (by omega)
      have d4 := hmu.box hkb (hrk.out.cell jn (by omega))
      have f3 := hcr.fz jn
      generalize hx : Cur.getD jn 0 = x at d3
      generalize hy : (s.1.getD k []).getD jn 0 = y at d4
      have HX := hide hx
      have HY := hide hy
      clear hx hy hcr hcs hmu
      go_wp2_with fail
      go_region
      have hz : sameB (arR .sub x (arR .mul m y wr.drew) (wr.drewN (1 + arN .mul m y))) (fop .sub ((subTo (fop .quo (t.at i k) (t.at k k)) (t.1.getD k []) (t.1.getD i []) k jn).getD jn 0) (fop .mul (fop .quo (t.at i k) (t.at k k)) ((t.1.getD k []).getD jn 0))) = true :=
        arR_same .sub _ (by rw [← HX.out]; exact HCS.out.at jn) (arR_same .mul _ Hm.out (by rw [← HY.out]; exact (HST.out.2.1 k).at jn))
      have hz64 := arR_lt .sub x (arR .mul m y wr.drew) (wr.drewN (1 + arN .mul m y))
      generalize arR .sub x (arR .mul m y wr.drew) (wr.drewN (1 + arN .mul m y)) = z at hz hz64 ⊢
      generalize (1 + arN .mul m y + arN .sub x (arR .mul m y wr.drew)) = q
      have F2 : Hid (FRow ((wr.drewN q).setCell ⟨bi, jn, none⟩ (.float .f64 z)) bi (Cur.set jn z)) := (FRow.block (w' := wr.drewN q) HCR.out rfl).set (by omega) hz64
      have M2 : Hid (Mut bi W1 ((wr.drewN q).setCell ⟨bi, jn, none⟩ (.float .f64 z))) := (HMU.out.drewN q).setCell jn _
      have S2 : Hid (SmL (Cur.set jn z) (subTo (fop .quo (t.at i k) (t.at k k)) (t.1.getD k []) (t.1.getD i []) k (jn + 1))) := by
        rw [subTo_next _ _ _ _ _ (by omega) (by rw [← (HST.out.2.1 i).1, hli]; omega)]
        exact HCS.out.set jn hz
      generalize (wr.drewN q).setCell ⟨bi, jn, none⟩ (.float .f64 z) = W2 at F2 M2 ⊢
      go_wp2_with fail
      go_roundw
      · exact ⟨jn + 1, by go_num, by omega, by omega, Cur.set jn z, by simpa using hcl, F2.out, S2.out, M2.out⟩
      · simp [intOf]; omega
    · have hjj : jn = n := by omega
      subst hjj
      have hhb : h ≠ bi := by rw [← Hbi.out]; exact (HH.out.hb i hi).symm
      have hrt : Hid (FRow wr h s.2) := HH.out.rt.block ((hmu.block h (by have := cell_lt (HH.out.rt.cell i (by rw [HH.out.sq.2.1]; exact hi)); have := X1.out.bl.size; omega) hhb).trans (X1.out.bl.block h (cell_lt (HH.out.rt.cell i (by rw [HH.out.sq.2.1]; exact hi)))))
      have c1 := hmu.box (show w.heap.size ≠ bi by omega) C1.out
      have d5 := hrt.out.cell i (by rw [HH.out.sq.2.1]; exact hi)
      have d6 := hrt.out.cell k (by rw [HH.out.sq.2.1]; exact hk)
      have f5 := hrt.out.fz i
      generalize hx : s.2.getD i 0 = x at d5
      generalize hy : s.2.getD k 0 = y at d6
      have HX := hide hx
      have HY := hide hy
      clear hx hy hcr hcs hmu
      go_wp2_with fail
      go_region
      have hz : sameB (arR .sub x (arR .mul m y wr.drew) (wr.drewN (1 + arN .mul m y))) (fop .sub (t.rt i) (fop .mul (fop .quo (t.at i k) (t.at k k)) (t.rt k))) = true :=
        arR_same .sub _ (by rw [← HX.out]; exact HST.out.rt i) (arR_same .mul _ Hm.out (by rw [← HY.out]; exact HST.out.rt k))
      have hz64 := arR_lt .sub x (arR .mul m y wr.drew) (wr.drewN (1 + arN .mul m y))
      generalize arR .sub x (arR .mul m y wr.drew) (wr.drewN (1 + arN .mul m y)) = z at hz hz64 ⊢
      generalize (1 + arN .mul m y + arN .sub x (arR .mul m y wr.drew)) = q
      have R2 : Hid (FRow ((wr.drewN q).setCell ⟨h, i, none⟩ (.float .f64 z)) h (s.2.set i z)) := (FRow.block (w' := wr.drewN q) hrt.out rfl).set (by rw [HH.out.sq.2.1]; exact hi) hz64
      have hbk2 : ∀ b, b ≠ h → ((wr.drewN q).setCell ⟨h, i, none⟩ (.float .f64 z)).heap[b]? = wr.heap[b]? := fun b hb => Below.heap_setCell _ _ _ _ hb
      have F2 : Hid (FRow ((wr.drewN q).setCell ⟨h, i, none⟩ (.float .f64 z)) bi Cur) := HCR.out.block (hbk2 bi (Ne.symm hhb))
      have hall : ∀ b, b < w.heap.size → b ≠ bi → b ≠ h → ((wr.drewN q).setCell ⟨h, i, none⟩ (.float .f64 z)).heap[b]? = w.heap[b]? := fun b h1 h2 h3 => (hbk2 b h3).trans ((HMU.out.block b (Nat.lt_of_lt_of_le h1 X1.out.bl.size) h2).trans (X1.out.bl.block b h1))
      have M2 : Hid (MutP (fun b => b = bi ∨ b = h) w ((wr.drewN q).setCell ⟨h, i, none⟩ (.float .f64 z))) :=
        (X1.out.mutP _).trans ((HMU.out.mutP (.inl rfl)).trans (Mut.mutP (b := h) (((Mut.refl h wr).drewN q).setCell i _) (.inr rfl)))
      have G2 : Hid (SysIn ((wr.drewN q).setCell ⟨h, i, none⟩ (.float .f64 z)) g h jn bs (s.1.set i Cur, s.2.set i z)) :=
        HH.out.step hi (hall g (cell_lt (HH.out.out i hi)) hbg HH.out.gh) (by rw [Hbi.out]; exact F2.out) hcl R2.out (by simpa using HH.out.sq.2.1)
          (fun j hj hji => hall _ (HH.out.lt hj) (by rw [← Hbi.out]; exact HH.out.nd j i hj hi hji) (HH.out.hb j hj))
      have S2 : Hid (SmS (s.1.set i Cur, s.2.set i z) (t.sub i k)) := by
        have e : t.1.length = jn := by rw [← HST.out.1]; exact HH.out.sq.1
        have := HST.out.step (i := i) HH.out.sq.1 HCS.out (HST.out.2.2.set i hz)
        unfold Sys.sub
        rw [e]
        exact this
      clear hbk2 hall R2 F2
      generalize (wr.drewN q).setCell ⟨h, i, none⟩ (.float .f64 z) = W2 at M2 G2 ⊢
      go_wp2
      refine bodyPost_end (results_none rfl _ _ _) rfl ⟨rfl, ?_⟩
      exact ⟨_, G2.out, S2.out, by have e := Hbi.out; subst e; exact M2.out⟩
end
theorem abs_key (x y : Nat) (h : sameB x y = true) : sameB (absF x) (absF y) = true := by
  have e : ∀ z, nanD (absF z) = nanD z := fun z => by
    rw [Bool.eq_iff_iff, nanD_iff, nanD_iff]
    unfold absF
    rw [Nat.mod_mod]
  rcases (same_iff _ _).1 h with ⟨a, b⟩ | ⟨a, rfl⟩
  · exact (same_iff _ _).2 (.inl ⟨by rw [e]; exact a, by rw [e]; exact b⟩)
  · exact same_self _

set_option maxHeartbeats 2000000 in
theorem pivot_any {w : World} {g h n cg : Nat} {bs : List Nat} {s t : Sys} (H : SysIn w g h n bs s) (hst : SmS s t) (k : Nat) (hk : k < n) (hn : n ≤ 4096) :
    Calls Tryz.prog 85 #[.agg #[.slice (some ⟨g, 0, none⟩) n cg, .slice (some ⟨h, 0, none⟩) n n], .int .i64 k] w fun e w' => e = .returned (.int .i64 (t.piv k)) ∧ Ext w w' := by
  have x0 : Ext w (w.alloc (.cells #[.slice (some ⟨g, 0, none⟩) n cg, .slice (some ⟨h, 0, none⟩) n n] 94)) := (Ext.refl w).alloc _ _
  have n1 := fun j => new_cell w #[.slice (some ⟨g, 0, none⟩) n cg, .slice (some ⟨h, 0, none⟩) n n] 94 w.heap.size rfl j
  have c0 := n1 0
  simp only [List.getElem?_toArray, List.getElem?_cons_zero, List.getElem?_cons_succ] at c0
  have e2 : (0 : Int) ≤ (k : Int) := Int.natCast_nonneg _
  have e3 : (k : Int) < (n : Int) := by omega
  have hpl : ∀ m, pivN (fun i => t.at i k) k m ≤ k + m ∧ k ≤ pivN (fun i => t.at i k) k m := fun m => (pivN_le _ k m).symm
  have htl : t.1.length = n := by rw [← hst.1]; exact H.sq.1
  have HH := hide H
  have HST := hide hst
  have X0 := hide x0
  have HW0 : Hid ((w.alloc (.cells #[.slice (some ⟨g, 0, none⟩) n cg, .slice (some ⟨h, 0, none⟩) n n] 94)).cell? ⟨w.heap.size, 0, none⟩ = some (.slice (some ⟨g, 0, none⟩) n cg)) := c0
  clear H hst n1 x0 c0
  go_enter Tryz.func85, Tryz.ntmps85
  go_wp2_with fail
  generalize w.alloc (.cells #[.slice (some ⟨g, 0, none⟩) n cg, .slice (some ⟨h, 0, none⟩) n n] 94) = W1 at X0 HW0 ⊢
  go_loopw [5, 6] (fun p i wr => ∃ m : Nat, i = .int .i64 (k + 1 + m : Nat) ∧ k + 1 + m ≤ n ∧ p = .int .i64 (pivN (fun i => t.at i k) k m) ∧ Ext W1 wr) (fun p i _ => n - (intOf i).toNat)
  case atStart => exact ⟨0, by simp, by omega, by simp [pivN], Ext.refl _⟩
  case round =>
    obtain ⟨m, rfl, hm, rfl, hx⟩ := hrel
    have hp := hpl m
    have c0 := hx.box HW0.out
    have XX := hide (X0.out.trans hx)
    have HX := hide hx
    clear hx
    by_cases hlt : k + 1 + m < n
    · have hpn : pivN (fun i => t.at i k) k m < n := by omega
      have d1 := XX.out.box (HH.out.out (k + 1 + m) hlt)
      have d2 := XX.out.box (HH.out.out _ hpn)
      have d3 := XX.out.box (HH.out.elt hlt hk)
      have d4 := XX.out.box (HH.out.elt hpn hk)
      have b3 := (HH.out.row (k + 1 + m) hlt).b64 k
      have b4 := (HH.out.row _ hpn).b64 k
      have hcmp : Hid (flt (absF (s.at (pivN (fun i => t.at i k) k m) k)) (absF (s.at (k + 1 + m) k)) = flt (absF (t.at (pivN (fun i => t.at i k) k m) k)) (absF (t.at (k + 1 + m) k))) := flt_congr (abs_key _ _ (HST.out.at _ _)) (abs_key _ _ (HST.out.at _ _))
      have hnx : Hid (pivN (fun i => t.at i k) k (m + 1) = if flt (absF (t.at (pivN (fun i => t.at i k) k m) k)) (absF (t.at (k + 1 + m) k)) then k + 1 + m else pivN (fun i => t.at i k) k m) := rfl
      change B64 (s.at (k + 1 + m) k) at b3
      change B64 (s.at (pivN (fun i => t.at i k) k m) k) at b4
      generalize hP : pivN (fun i => t.at i k) k m = p at *
      generalize hI : k + 1 + m = i at *
      generalize bs.getD i 0 = bi at d1 d3
      generalize bs.getD p 0 = bp at d2 d4
      generalize s.at i k = x at *
      generalize s.at p k = y at *
      have i0 : (0 : Int) ≤ (i : Int) := Int.natCast_nonneg _
      have i1 : (i : Int) < (n : Int) := by omega
      have p0 : (0 : Int) ≤ (p : Int) := Int.natCast_nonneg _
      have p1 : (p : Int) < (n : Int) := by omega
      have ab := fun w => abs_any x b3 w
      have ab2 := fun w => abs_any y b4 w
      go_wp2_with fail
      go_quiet (first | (go_at_call 123; exact Calls.quiet_of_same (abs_any _ (by assumption) _)))
      have X2 := hide (HX.out.drewN nq)
      generalize wr.drewN nq = W2 at X2 ⊢
      have hnx2 := hnx.out
      rw [← hcmp.out] at hnx2
      have HN := hide hnx2
      clear hnx2 hnx hcmp
      cases hf : flt (absF y) (absF x)
      · rw [hf] at HN
        go_wp2_with fail
        go_roundw
        · exact ⟨m + 1, by rw [← hI]; go_num, by omega, by rw [HN.out]; rfl, X2.out⟩
        · simp [intOf]; omega
      · rw [hf] at HN
        go_wp2_with fail
        go_roundw
        · exact ⟨m + 1, by rw [← hI]; go_num, by omega, by rw [HN.out]; rfl, X2.out⟩
        · simp [intOf]; omega
    · have hmm : k + 1 + m = n := by omega
      have hd : decide (((k + 1 + m : Nat) : Int) < (n : Int)) = false := decide_eq_false (by omega)
      have hfin : Hid (t.piv k = pivN (fun i => t.at i k) k m) := by
        show t.piv k = _
        unfold Sys.piv
        rw [htl, show n - k - 1 = m by omega]
      generalize hP : pivN (fun i => t.at i k) k m = p at *
      generalize hI : k + 1 + m = i at *
      go_wp2
      go_ret
      exact ⟨by rw [hfin.out]; rfl, XX.out⟩
end Go.Proofs.YtfhcpicddegblaaGreat
namespace Go.Proofs.YtfhcpicddegblaaGreat
open Go.ChangeShapes Go.RowKit
set_option linter.unusedSimpArgs false
set_option linter.unusedVariables false

/-- The first k are in, the rest is 0. -/
def fill (xs : List Int) (k : Nat) : List Int := xs.take k ++ List.replicate (xs.length - k) 0
theorem fill_len (xs : List Int) (k : Nat) : (fill xs k).length = xs.length := by
  unfold fill; simp; omega
theorem fill_set (xs : List Int) (k : Nat) (hk : k < xs.length) : (fill xs k).set k (xs.getD k 0) = fill xs (k + 1) := by
  unfold fill
  apply List.ext_getElem?
  intro j
  simp only [List.getElem?_set, List.getElem?_append, List.length_append, List.length_take, List.length_replicate, List.getElem?_take, List.getElem?_replicate, List.getD_eq_getElem?_getD]
  by_cases e : k = j
  · subst e
    have h1 : min k xs.length = k := by omega
    have h2 : min (k + 1) xs.length = k + 1 := by omega
    simp [h1, h2, hk]
    omega
  · have h1 : min k xs.length = k := by omega
    have h2 : min (k + 1) xs.length = k + 1 := by omega
    simp only [h1, h2, e, if_false]
    by_cases h : j < k
    · have : j < k + 1 := by omega
      simp [h, this]
    · have h3 : ¬ j < k + 1 := by omega
      simp only [h, h3, if_false]
      by_cases h4 : j - k < xs.length - k
      · have : j - (k + 1) < xs.length - (k + 1) := by omega
        simp [h4, this]
      · have : ¬ j - (k + 1) < xs.length - (k + 1) := by omega
        simp [h4, this]
theorem fill_zero (xs : List Int) : fill xs 0 = List.replicate xs.length 0 := by unfold fill; simp
theorem fill_full (xs : List Int) : fill xs xs.length = xs := by unfold fill; simp

theorem row_new (w : World) (n : Nat) : Row (w.alloc (.cells (madeCells #[.int .i64 0] n) 2)) w.heap.size 0 (List.replicate n 0) := by
  intro j hj
  rw [List.length_replicate] at hj
  rw [cell_of_row _ w.heap.size (0 + j) _ 2 (0, 0) (heap_alloc_new w _)]
  simp [madeCells, hj, Nat.mod_one]

set_option maxRecDepth 100000 in
set_option maxHeartbeats 1000000 in
theorem toInts_any {w : World} {v : Value} {xs : List Int} (h : Ints w v xs) (hl : xs.length ≤ 1048576) :
    Calls Tryz.prog 75 #[v] w fun e w' => e = .returned (.slice (some ⟨w.heap.size, 0, none⟩) xs.length xs.length) ∧ Row w' w.heap.size 0 xs ∧ Ext w w' ∧ w.heap.size < w'.heap.size := by
  obtain ⟨i0, hi0, hz0, hz1, hz2⟩ := info_parts info2
  obtain ⟨sa, cap, rfl, hx⟩ := h
  have hmk := run_make (P := Tryz.prog) w 25 2 i0 (.int .i64 0) Tryz.underlying25 hi0 hz0 .i64 .i64 xs.length xs.length (by omega) (Int.le_refl _) (by rw [hz2]; omega) (by omega)
  simp only [Int.toNat_natCast] at hmk
  have HX := hide hx
  clear hx
  have R0 := hide (row_new w xs.length)
  go_enter Tryz.func75, Tryz.ntmps75
  go_wp2
  go_loopw [4] (fun i wr => ∃ k : Nat, i = .int .i64 k ∧ k ≤ xs.length ∧ Row wr w.heap.size 0 (fill xs k) ∧ Ext w wr ∧ w.heap.size < wr.heap.size) (fun i _ => xs.length - (intOf i).toNat)
  case atStart => exact ⟨0, rfl, by omega, by rw [fill_zero]; exact R0.out, (Ext.refl w).alloc _ _, by simp⟩
  case round =>
    obtain ⟨k, rfl, hk, hr, he, hs⟩ := hrel
    have HR := hide hr
    have HE := hide he
    clear hr he
    by_cases hlt : k < xs.length
    · rcases HX.out with h0 | ⟨b, off, rfl, hrow⟩
      · rw [h0] at hlt; simp at hlt
      have q0 := HE.out.box (hrow k hlt)
      have q1 := HR.out k (by rw [fill_len]; exact hlt)
      rw [Nat.zero_add] at q1
      have qf := HE.out.unfrozen (Nat.le_refl _) k
      have hk0 : (0 : Int) ≤ (k : Int) := Int.natCast_nonneg _
      have hk1 : (k : Int) < (xs.length : Int) := by omega
      have St := HR.out.set (k := k) (by rw [fill_len]; exact hlt) (xs.getD k 0)
      rw [fill_set xs k hlt, Nat.zero_add] at St
      generalize xs.getD k 0 = x at q0 St
      have HSt := hide St
      clear St
      go_wp2
      go_roundw
      · exact ⟨k + 1, by go_num, by omega, HSt.out, HE.out.setCell (Nat.le_refl _) _, by simpa [World.setCell] using hs⟩
      · simp [intOf]; omega
    · have hkk : k = xs.length := by omega
      go_wp2
      go_ret
      refine ⟨rfl, ?_, HE.out, hs⟩
      have := HR.out
      rw [hkk, fill_full] at this
      exact this

/-- The first places where two lists of one length part. -/
theorem eq_of_getD {xs ys : List Int} (hl : xs.length = ys.length) (h : ∀ j, j < xs.length → xs.getD j 0 = ys.getD j 0) : xs = ys := by
  apply List.ext_getElem hl
  intro j h1 h2
  have := h j h1
  simpa [List.getD_eq_getElem?_getD, h1, h2] using this

set_option maxRecDepth 100000 in
set_option maxHeartbeats 1000000 in
theorem eqInts_any {w : World} {v u : Value} {xs ys : List Int} (h : Ints w v xs) (g : Ints w u ys) (hl : xs.length ≤ 1000000000000) :
    Calls Tryz.prog 91 #[v, u] w fun e w' => e = .returned (.bool (decide (xs = ys))) ∧ Ext w w' := by
  obtain ⟨sa, cap, rfl, hx⟩ := h
  obtain ⟨ta, dap, rfl, hy⟩ := g
  have HX := hide hx
  have HY := hide hy
  clear hx hy
  by_cases hle : xs.length = ys.length
  · have hle' : (xs.length : Int) = (ys.length : Int) := by omega
    go_enter Tryz.func91, Tryz.ntmps91
    go_wp2
    go_loopw [5] (fun i wr => ∃ k : Nat, i = .int .i64 k ∧ k ≤ xs.length ∧ Hid (∀ j, j < k → xs.getD j 0 = ys.getD j 0) ∧ Ext w wr) (fun i _ => xs.length - (intOf i).toNat)
    case atStart => exact ⟨0, rfl, by omega, fun j hj => absurd hj (Nat.not_lt_zero _), Ext.refl w⟩
    case round =>
      obtain ⟨k, rfl, hk, he, hw⟩ := hrel
      have HW := hide hw
      clear hw
      by_cases hlt : k < xs.length
      · rcases HX.out with h0 | ⟨b, off, rfl, hrow⟩
        · rw [h0] at hlt; simp at hlt
        rcases HY.out with h0 | ⟨b2, off2, rfl, hrow2⟩
        · rw [hle, h0] at hlt; simp at hlt
        have q0 := HW.out.box (hrow k hlt)
        have q1 := HW.out.box (hrow2 k (by omega))
        have hk0 : (0 : Int) ≤ (k : Int) := Int.natCast_nonneg _
        have hk1 : (k : Int) < (xs.length : Int) := by omega
        have hk2 : (k : Int) < (ys.length : Int) := by omega
        by_cases hq : xs.getD k 0 = ys.getD k 0
        · have he2 : Hid (∀ j, j < k + 1 → xs.getD j 0 = ys.getD j 0) := fun j hj => by
            by_cases e : j = k
            · rw [e]; exact hq
            · exact he.out j (by omega)
          rw [hq] at q0
          clear hq
          generalize ys.getD k 0 = x at q0 q1
          clear hrow hrow2
          go_wp2_with fail
          go_region
          all_goals go_wp2
          all_goals go_roundw
          all_goals first | exact ⟨k + 1, by go_num, by omega, he2, HW.out.drew⟩ | (simp [intOf]; omega)
        · have hne : ¬ xs = ys := fun e => hq (by rw [e])
          have hd : Hid (decide (xs = ys) = false) := decide_eq_false hne
          generalize xs.getD k 0 = x at q0 hq
          generalize ys.getD k 0 = y at q1 hq
          have hq2 : (x != y) = true := by simp [hq]
          clear hrow hrow2 hne
          go_wp2_with fail
          go_region
          all_goals go_wp2
          all_goals go_ret
          all_goals exact ⟨ret_bool hd.out.symm, HW.out.drew⟩
      · have hkk : k = xs.length := by omega
        subst hkk
        have hd : Hid (decide (xs = ys) = true) := decide_eq_true (eq_of_getD hle he.out)
        go_wp2
        go_ret
        exact ⟨ret_bool hd.out.symm, HW.out⟩
  · have hd : Hid (decide (xs = ys) = false) := decide_eq_false (fun e => hle (by rw [e]))
    have hne : ¬ (xs.length : Int) = (ys.length : Int) := by omega
    go_enter Tryz.func91, Tryz.ntmps91
    go_wp2
    go_ret
    exact ⟨ret_bool hd.out.symm, Ext.refl w⟩

/-- What mark lays: k, k + 1, .. -/
def counted (n : Nat) (k : Int) : List Int := (List.range n).map fun (j : Nat) => k + (j : Int)
theorem counted_len (n : Nat) (k : Int) : (counted n k).length = n := by simp [counted]
theorem counted_getD (n : Nat) (k : Int) (j : Nat) (hj : j < n) : (counted n k).getD j 0 = k + (j : Int) := by simp [counted, List.getD_eq_getElem?_getD, hj]

/-- Marked up to i. -/
def marked (xs : List Int) (k : Int) (i : Nat) : List Int := counted i k ++ xs.drop i
theorem marked_len (xs : List Int) (k : Int) (i : Nat) (hi : i ≤ xs.length) : (marked xs k i).length = xs.length := by
  unfold marked; simp [counted_len]; omega
theorem marked_set (xs : List Int) (k : Int) (i : Nat) (hi : i < xs.length) : (marked xs k i).set i (k + i) = marked xs k (i + 1) := by
  unfold marked counted
  apply List.ext_getElem?
  intro j
  simp only [List.getElem?_set, List.getElem?_append, List.length_append, List.length_map, List.length_range, List.length_drop, List.getElem?_map, List.getElem?_drop]
  by_cases e : i = j
  · subst e
    have : i + (xs.length - i) = xs.length := by omega
    simp [this, hi]
  · simp only [e, if_false]
    by_cases h : j < i
    · have : j < i + 1 := by omega
      simp [h, this]
    · have h3 : ¬ j < i + 1 := by omega
      have h5 : i + (j - i) = i + 1 + (j - (i + 1)) := by omega
      simp only [h, h3, if_false, h5]
theorem marked_zero (xs : List Int) (k : Int) : marked xs k 0 = xs := by simp [marked, counted]
theorem marked_full (xs : List Int) (k : Int) : marked xs k xs.length = counted xs.length k := by simp [marked]

set_option maxRecDepth 100000 in
set_option maxHeartbeats 1000000 in
theorem markInts_any {w : World} {b off cap : Nat} {xs : List Int} (h : Row w b off xs) (hf : ∀ o, w.frozen? ⟨b, o, none⟩ = false) (k : Int) (hk : 0 ≤ k ∧ k ≤ 1000000000000) (hl : xs.length ≤ 1000000000000) :
    Calls Tryz.prog 93 #[.slice (some ⟨b, off, none⟩) xs.length cap, .int .i64 k] w fun e w' => e = .returned (.int .i64 (k + xs.length)) ∧ Row w' b off (counted xs.length k) ∧ Mut b w w' := by
  have H := hide h
  clear h
  go_enter Tryz.func93, Tryz.ntmps93
  go_wp2
  go_loopw [1, 5] (fun m i wr => ∃ j : Nat, i = .int .i64 j ∧ m = .int .i64 (k + j) ∧ j ≤ xs.length ∧ Row wr b off (marked xs k j) ∧ Mut b w wr) (fun m i _ => xs.length - (intOf i).toNat)
  case atStart => exact ⟨0, rfl, by simp, by omega, by rw [marked_zero]; exact H.out, Mut.refl _ _⟩
  case round =>
    obtain ⟨j, rfl, rfl, hj, hr, hm⟩ := hrel
    have HR := hide hr
    have HM := hide hm
    clear hr hm
    by_cases hlt : j < xs.length
    · have hml : j < (marked xs k j).length := by rw [marked_len xs k j hj]; exact hlt
      have q0 := HR.out j hml
      have qf := (HM.out.fz ⟨b, off + j, none⟩).trans (hf _)
      have hj0 : (0 : Int) ≤ (j : Int) := Int.natCast_nonneg _
      have hj1 : (j : Int) < (xs.length : Int) := by omega
      have St := HR.out.set (k := j) hml (k + j)
      rw [marked_set xs k j hlt] at St
      have HSt := hide St
      clear St
      generalize (marked xs k j).getD j 0 = x at q0
      go_wp2
      go_roundw
      · exact ⟨j + 1, by go_num, by go_num, by omega, HSt.out, HM.out.setCell _ _⟩
      · simp [intOf]; omega
    · have hjj : j = xs.length := by omega
      subst hjj
      go_wp2
      go_ret
      refine ⟨rfl, ?_, HM.out⟩
      have := HR.out
      rw [marked_full] at this
      exact this

def prod (xs : List Int) : Int := xs.foldl (· * ·) 1
theorem prod_take (xs : List Int) (k : Nat) (hk : k < xs.length) : prod (xs.take (k + 1)) = prod (xs.take k) * xs.getD k 0 := by
  unfold prod
  rw [List.take_add_one, List.foldl_append, List.getD_eq_getElem?_getD, List.getElem?_eq_getElem hk]
  rfl
/-- All lengths up to k are in range. -/
abbrev InR (xs : List Int) (k : Nat) : Prop := ∀ j, j < k → 0 ≤ xs.getD j 0 ∧ xs.getD j 0 ≤ 4096
theorem InR.step {xs : List Int} {k : Nat} (h : InR xs k) (hx : 0 ≤ xs.getD k 0 ∧ xs.getD k 0 ≤ 4096) : InR xs (k + 1) := fun j hj => by
  by_cases e : j = k
  · rw [e]; exact hx
  · exact h j (by omega)
theorem mul_bd {n x B : Int} (hn : 0 ≤ n ∧ n ≤ B) (hx : 0 ≤ x ∧ x ≤ 4096) : 0 ≤ n * x ∧ n * x ≤ B * 4096 :=
  ⟨Int.mul_nonneg hn.1 hx.1, Int.mul_le_mul hn.2 hx.2 hx.1 (Int.le_trans hn.1 hn.2)⟩
def bd (k : Nat) : Int := if k = 0 then 1 else if k = 1 then 4096 else if k = 2 then 16777216 else if k = 3 then 68719476736 else 281474976710656
theorem bd_le (k : Nat) : bd k ≤ 281474976710656 := by unfold bd; repeat' split
                                                       all_goals omega
theorem prod_bd (xs : List Int) : ∀ k, k ≤ 4 → k ≤ xs.length → InR xs k → 0 ≤ prod (xs.take k) ∧ prod (xs.take k) ≤ bd k
  | 0, _, _, _ => by simp [prod, bd]
  | k + 1, h4, hl, h => by
    have ih := prod_bd xs k (by omega) (by omega) (fun j hj => h j (by omega))
    rw [prod_take xs k (by omega)]
    have := mul_bd ih (h k (by omega))
    have hb : bd k * 4096 = bd (k + 1) := by
      obtain rfl | rfl | rfl | rfl : k = 0 ∨ k = 1 ∨ k = 2 ∨ k = 3 := by omega
      all_goals rfl
    rw [hb] at this
    exact this

/-- A good shape. -/
abbrev Good (xs : List Int) : Prop := xs.length ≤ 4 ∧ InR xs xs.length ∧ prod xs ≤ 4096
def goodB (xs : List Int) : Bool := decide (Good xs)
def cntL (xs : List Int) : Int := if Good xs then prod xs else -1

set_option maxRecDepth 100000 in
set_option maxHeartbeats 1000000 in
theorem l2Count_any {w : World} {v : Value} {xs : List Int} (h : Ints w v xs) (hl : xs.length ≤ 1000000000000) :
    Calls Tryz.prog 105 #[v] w fun e w' => e = .returned (.int .i64 (cntL xs)) ∧ w' = w := by
  obtain ⟨sa, cap, rfl, hx⟩ := h
  have HX := hide hx
  clear hx
  by_cases h4 : xs.length ≤ 4
  · have h4' : (xs.length : Int) ≤ 4 := by omega
    go_enter Tryz.func105, Tryz.ntmps105
    go_wp2
    go_loopw [3, 4] (fun m i wr => ∃ k : Nat, i = .int .i64 k ∧ m = .int .i64 (prod (xs.take k)) ∧ k ≤ xs.length ∧ Hid (InR xs k) ∧ wr = w) (fun m i _ => xs.length - (intOf i).toNat)
    case atStart => exact ⟨0, rfl, rfl, by omega, fun j hj => absurd hj (Nat.not_lt_zero _), rfl⟩
    case round =>
      obtain ⟨k, rfl, rfl, hk, hin, rfl⟩ := hrel
      have hb := prod_bd xs k (by omega) hk hin.out
      have hb2 := bd_le k
      by_cases hlt : k < xs.length
      · rcases HX.out with h0 | ⟨b, off, rfl, hrow⟩
        · rw [h0] at hlt; simp at hlt
        have q0 := hrow k hlt
        have hk0 : (0 : Int) ≤ (k : Int) := Int.natCast_nonneg _
        have hk1 : (k : Int) < (xs.length : Int) := by omega
        have hp := prod_take xs k hlt
        by_cases hr : 0 ≤ xs.getD k 0 ∧ xs.getD k 0 ≤ 4096
        · have hin2 : Hid (InR xs (k + 1)) := hin.out.step hr
          have hB := prod_bd xs (k + 1) (by omega) (by omega) hin2.out
          have hB2 := bd_le (k + 1)
          generalize bd (k + 1) = B1 at hB hB2
          generalize bd k = B0 at hb hb2
          generalize hP1 : prod (xs.take (k + 1)) = P1 at hp hB
          have HP1 := hide hP1
          clear hP1
          generalize prod (xs.take k) = P0 at hp hb ⊢
          generalize xs.getD k 0 = x at q0 hp hr
          have hw1 : wrap64 (P0 * x) = P1 := by rw [← hp]; unfold wrap64; omega
          clear hrow hp
          have hlo : ¬ x < 0 := by omega
          have hhi : ¬ 4096 < x := by omega
          go_wp2
          go_roundw
          · exact ⟨k + 1, by go_num, by first | (rw [HP1.out]; done) | (rw [HP1.out, hw1]), by omega, hin2, by trivial⟩
          · simp [intOf]; omega
        · have hng : Hid (cntL xs = -1) := by
            show cntL xs = -1
            unfold cntL
            exact if_neg (fun g => hr (g.2.1 k hlt))
          generalize xs.getD k 0 = x at q0 hp hr
          clear hp hrow hb hb2
          by_cases hlo : x < 0
          · go_wp2
            go_ret
            exact ⟨ret_int hng.out.symm, rfl⟩
          · have hhi : 4096 < x := by omega
            go_wp2
            go_ret
            exact ⟨ret_int hng.out.symm, rfl⟩
      · have hkk : k = xs.length := by omega
        subst hkk
        rw [List.take_length] at hb ⊢
        by_cases hp : prod xs ≤ 4096
        · have hg : Hid (cntL xs = prod xs) := if_pos ⟨h4, hin.out, hp⟩
          generalize prod xs = P at hp hg hb ⊢
          go_wp2
          go_ret
          exact ⟨ret_int hg.out.symm, rfl⟩
        · have hg : Hid (cntL xs = -1) := if_neg (fun g => hp g.2.2)
          generalize prod xs = P at hp hg hb ⊢
          have hp2 : 4096 < P := by omega
          go_wp2
          go_ret
          exact ⟨ret_int hg.out.symm, rfl⟩
  · have hg : Hid (cntL xs = -1) := if_neg (fun g => h4 g.1)
    have h4' : 4 < (xs.length : Int) := by omega
    go_enter Tryz.func105, Tryz.ntmps105
    go_wp2
    go_ret
    exact ⟨ret_int hg.out.symm, rfl⟩

/-- A shape as the program keeps it. -/
def shp (xs : List Int) : Array Value := #[.int .i64 xs.length, .int .i64 (xs.getD 0 0), .int .i64 (xs.getD 1 0), .int .i64 (xs.getD 2 0), .int .i64 (xs.getD 3 0)]

set_option maxRecDepth 100000 in
set_option maxHeartbeats 1000000 in
theorem count_any (w : World) (xs : List Int) (h4 : xs.length ≤ 4) (hr : InR xs xs.length) :
    Calls Tryz.prog 81 #[.agg (shp xs)] w fun e w' => e = .returned (.int .i64 (prod xs)) ∧ w' = w.alloc (.cells (shp xs) 81) := by
  have HR := hide hr
  clear hr
  have h4' : (xs.length : Int) ≤ 4 := by omega
  go_enter Tryz.func81, Tryz.ntmps81
  simp only [shp]
  have R0 : ∀ j, j < xs.length → (w.alloc (.cells (shp xs) 81)).cell? ⟨w.heap.size, 1 + j, none⟩ = some (.int .i64 (xs.getD j 0)) := fun j hj => by
    obtain rfl | rfl | rfl | rfl : j = 0 ∨ j = 1 ∨ j = 2 ∨ j = 3 := by omega
    all_goals simp [shp]
  have HR0 := hide R0
  clear R0
  go_wp2
  go_loopw [3, 11] (fun m i wr => ∃ k : Nat, i = .int .i64 k ∧ m = .int .i64 (prod (xs.take k)) ∧ k ≤ xs.length ∧ wr = w.alloc (.cells (shp xs) 81)) (fun m i _ => xs.length - (intOf i).toNat)
  case atStart => exact ⟨0, rfl, rfl, by omega, rfl⟩
  case round =>
    obtain ⟨k, rfl, rfl, hk, rfl⟩ := hrel
    have hb := prod_bd xs k (by omega) hk (fun j hj => HR.out j (by omega))
    have hb2 := bd_le k
    by_cases hlt : k < xs.length
    · have q0 := HR0.out k hlt
      have hk0 : (0 : Int) ≤ (k : Int) := Int.natCast_nonneg _
      have hk1 : (k : Int) < (xs.length : Int) := by omega
      have hp := prod_take xs k hlt
      have hB := prod_bd xs (k + 1) (by omega) (by omega) (fun j hj => HR.out j (by omega))
      have hB2 := bd_le (k + 1)
      generalize bd (k + 1) = B1 at hB hB2
      generalize bd k = B0 at hb hb2
      generalize hP1 : prod (xs.take (k + 1)) = P1 at hp hB
      have HP1 := hide hP1
      clear hP1
      generalize prod (xs.take k) = P0 at hp hb ⊢
      generalize xs.getD k 0 = x at q0 hp
      have hw1 : wrap64 (P0 * x) = P1 := by rw [← hp]; unfold wrap64; omega
      clear hp
      go_wp2
      go_roundw
      · exact ⟨k + 1, by go_num, by first | (rw [HP1.out]; done) | (rw [HP1.out, hw1]), by omega, by trivial⟩
      · simp [intOf]; omega
    · have hkk : k = xs.length := by omega
      subst hkk
      rw [List.take_length]
      go_wp2
      go_ret
      exact ⟨rfl, rfl⟩
end Go.Proofs.YtfhcpicddegblaaGreat
