import Derived.Test.YtbkdfhlbjaiahaaCast
import Derived.Test.YtbkdfhlbjaiahaaFloats3
import Derived.Laws.FloatArith
import Derived.Laws.ComplexArith
import Derived.Laws.Externs
import Derived.Deep.QuietTactic
import Derived.BigQuiet
import Derived.Deep.RegionWith
namespace Go.Proofs.Ytbkdfhlbjaiahaa
open Go.RowKit FL
set_option linter.unusedSimpArgs false
set_option linter.unusedVariables false

@[go_sem] theorem run_store_float (P : Program) (w : World) (a : Addr) (m : Mode) (k : FloatKind) (b : Nat) : (store a (.float k b) m).run P w = stored P w a (.float k b) m := run_store P w a _ m rfl
@[go_sem] theorem run_store_complex (P : Program) (w : World) (a : Addr) (m : Mode) (k : FloatKind) (b c : Nat) : (store a (.complex k b c) m).run P w = stored P w a (.complex k b c) m := run_store P w a _ m rfl

def B64 (x : Nat) : Prop := x < 18446744073709551616
def hiB (x : Nat) : Bool := decide (9223372036854775808 ≤ x)
def mzB (x : Nat) : Bool := decide (x = 9223372036854775808)
def pzB (x : Nat) : Bool := decide (x = 0)
def sameB (a b : Nat) : Bool := (nanD a && nanD b) || (!nanD a && !nanD b && decide (a = b))

@[go_sem] theorem ord_eq (x y : Nat) : (FloatKind.f64.format.order x y == some Ordering.eq) = feq x y := order_feq x y
@[go_sem] theorem ord_ne (x y : Nat) : (FloatKind.f64.format.order x y != some Ordering.eq) = !feq x y := congrArg (!·) (order_feq x y)
@[go_sem] theorem ord_lt (x y : Nat) : (FloatKind.f64.format.order x y == some Ordering.lt) = flt x y := order_flt x y
@[go_sem] theorem ord_gt (x y : Nat) : (FloatKind.f64.format.order x y == some Ordering.gt) = flt y x := order_fgt x y
theorem ord_eq' (x y : Nat) : (FloatKind.f64.format.order x y = some Ordering.eq) ↔ feq x y = true := by rw [← ord_eq, beq_iff_eq]
theorem ord_lt' (x y : Nat) : (FloatKind.f64.format.order x y = some Ordering.lt) ↔ flt x y = true := by rw [← ord_lt, beq_iff_eq]
theorem ord_gt' (x y : Nat) : (FloatKind.f64.format.order x y = some Ordering.gt) ↔ flt y x = true := by rw [← ord_gt, beq_iff_eq]

theorem nan_zero : nanD 0 = false := by decide
theorem key_zero : keyD 0 = 0 := by decide

theorem feq_zero (x : Nat) (h : B64 x) : feq x 0 = (pzB x || mzB x) := by
  unfold B64 at h
  have hk := keyD_eq x h
  have hn := nanD_iff x
  unfold feq pzB mzB
  rw [nan_zero, key_zero, hk]
  cases e : nanD x
  · by_cases h0 : x = 0
    · subst h0; rfl
    · by_cases h1 : x = 9223372036854775808
      · subst h1; rfl
      · simp [h0, h1]; split <;> omega
  · have := hn.1 e
    have h0 : x ≠ 0 := by omega
    have h1 : x ≠ 9223372036854775808 := by omega
    simp [h0, h1]

theorem isNaN_any (f : Nat) (w : World) :
    Calls Try.prog 77 #[.float .f64 f] w fun e w' => e = .returned (.bool (nanD f)) ∧ w' = w := by
  go_enter Try.func77, Try.ntmps77
  go_wp2
  go_ret
  exact ⟨ret_bool (by rw [feq_self, Bool.not_not]), rfl⟩

theorem l1IsNaN_any (f : Nat) (w : World) :
    Calls Try.prog 61 #[.float .f64 f] w fun e w' => e = .returned (.bool (nanD f)) ∧ w' = w := by
  go_enter Try.func61, Try.ntmps61
  go_wp2
  go_ret
  exact ⟨ret_bool (by rw [feq_self, Bool.not_not]), rfl⟩

theorem run_float64bits (x : Nat) (w : World) : (callFunc 78 #[.float .f64 x]).run Try.prog w = .ok (.value (.int .u64 x)) w := by
  rw [run_callFunc_extern Try.func78 (by kernel_rfl) (by kernel_rfl) (by kernel_rfl) (e := Extern.MathFloatBits.float64bits) (by kernel_rfl)]; rfl
theorem wrap64_hi (f : Nat) (h : B64 f) : decide (wrap64 (f : Int) < 0) = hiB f := by
  unfold B64 at h
  unfold hiB
  rw [Bool.eq_iff_iff]
  simp only [decide_eq_true_eq, wrap64, IntKind.wrap_i64]
  omega

theorem signbit_any (f : Nat) (h : B64 f) (w : World) :
    Calls Try.prog 76 #[.float .f64 f] w fun e w' => e = .returned (.bool (hiB f)) ∧ w' = w := by
  have hb := run_float64bits f
  go_enter Try.func76, Try.ntmps76
  go_wp2
  go_ret
  exact ⟨ret_bool (wrap64_hi f h), rfl⟩

theorem hi_zero (f : Nat) (h : feq f 0 = true) (hf : B64 f) : (!hiB f) = pzB f := by
  rw [feq_zero f hf] at h
  unfold pzB mzB at h
  unfold hiB pzB
  simp only [Bool.or_eq_true, decide_eq_true_eq] at h
  rcases h with rfl | rfl <;> decide

theorem pz_not (f : Nat) (h : ¬ feq f 0 = true) (hf : B64 f) : pzB f = false ∧ mzB f = false := by
  rw [feq_zero f hf] at h
  simpa using h

theorem isPlusZero_any (f : Nat) (h : B64 f) (w : World) :
    Calls Try.prog 66 #[.float .f64 f] w fun e w' => e = .returned (.bool (pzB f)) ∧ w' = w := by
  by_cases hz : feq f 0 = true
  · have hh := hi_zero f hz h
    go_enter Try.func66, Try.ntmps66
    go_wp2_with (go_at_call 76; refine (signbit_any _ h _).mono ?_; rintro e w' ⟨rfl, rfl⟩)
    go_ret
    exact ⟨rfl, rfl⟩
  · have hh := pz_not f hz h
    simp only [Bool.not_eq_true] at hz
    go_enter Try.func66, Try.ntmps66
    go_wp2
    go_ret
    exact ⟨ret_bool hh.1.symm, rfl⟩

theorem l1Minus_any (f : Nat) (h : B64 f) (w : World) :
    Calls Try.prog 62 #[.float .f64 f] w fun e w' => e = .returned (.bool (mzB f)) ∧ w' = w := by
  have q1 := fun w => run_float_arith (P := Try.prog) w .quo 57 .f64 4607182418800017408 0 9218868437227405312 (by decide)
  have q2 := fun w => run_float_arith (P := Try.prog) w .quo 57 .f64 4607182418800017408 9223372036854775808 18442240474082181120 (by decide)
  by_cases hz : feq f 0 = true
  · have h2 := hz
    rw [feq_zero f h] at h2
    unfold pzB mzB at h2
    simp only [Bool.or_eq_true, decide_eq_true_eq] at h2
    rcases h2 with rfl | rfl
    · have l1 : flt 9218868437227405312 0 = false := by decide
      have l2 : mzB 0 = false := by decide
      go_enter Try.func62, Try.ntmps62
      go_wp2
      go_ret
      exact ⟨rfl, rfl⟩
    · have l1 : flt 18442240474082181120 0 = true := by decide
      have l2 : mzB 9223372036854775808 = true := by decide
      go_enter Try.func62, Try.ntmps62
      go_wp2
      go_ret
      exact ⟨rfl, rfl⟩
  · have hh := pz_not f hz h
    simp only [Bool.not_eq_true] at hz
    go_enter Try.func62, Try.ntmps62
    go_wp2
    go_ret
    exact ⟨ret_bool hh.2.symm, rfl⟩

theorem same_num (a b : Nat) (ha : B64 a) (hb : B64 b) (na : nanD a = false) (nb : nanD b = false) : (feq a b && (mzB a == mzB b)) = decide (a = b) := by
  unfold feq
  rw [na, nb]
  unfold B64 at ha hb
  rw [Bool.eq_iff_iff]
  unfold mzB
  simp only [Bool.not_false, Bool.true_and, Bool.and_eq_true, decide_eq_true_eq, beq_iff_eq, decide_eq_decide]
  rw [keyD_eq a ha, keyD_eq b hb]
  split <;> split <;> omega

theorem hide {p : Prop} (h : p) : Hid p := h

theorem l1SameFloat_any (a b : Nat) (ha : B64 a) (hb : B64 b) (w : World) :
    Calls Try.prog 43 #[.float .f64 a, .float .f64 b] w fun e w' => e = .returned (.bool (sameB a b)) ∧ w' = w := by
  have Hs := hide (same_num a b ha hb)
  go_enter Try.func43, Try.ntmps43
  go_wp2_with (first | (go_at_call 61; refine (l1IsNaN_any _ _).mono ?_; rintro e w' ⟨rfl, rfl⟩) | (go_at_call 62; refine (l1Minus_any _ ?_ _).mono ?_; assumption; rintro e w' ⟨rfl, rfl⟩))
  all_goals go_ret
  all_goals go_light
  all_goals refine ⟨ret_bool ?_, rfl⟩
  all_goals (unfold sameB; have hs := Hs.out)
  all_goals (simp_all; done)

theorem zero_cases (f : Nat) (h : B64 f) (hz : feq f 0 = true) : f = 0 ∨ f = 9223372036854775808 := by
  rw [feq_zero f h] at hz
  unfold pzB mzB at hz
  simpa using hz

theorem same_nz (a b : Nat) (ha : B64 a) (hb : B64 b) (na : nanD a = false) (nb : nanD b = false) (h : ¬ (feq a 0 = true ∧ feq b 0 = true)) : feq a b = sameB a b := by
  have h1 := same_num a b ha hb na nb
  unfold sameB
  rw [na, nb]
  simp only [Bool.and_self, Bool.false_or, Bool.not_false, Bool.true_and]
  rw [← h1]
  cases hf : feq a b
  · rfl
  · have hk : keyD a = keyD b := by
      unfold feq at hf
      rw [na, nb] at hf
      simpa using hf
    rcases key_inj a b ha hb hk with e | e | e
    · rw [e]; simp
    · exact (h (by rw [e.1, e.2]; decide)).elim
    · exact (h (by rw [e.1, e.2]; decide)).elim

set_option maxHeartbeats 1000000 in
theorem sameFloat_any (a b : Nat) (ha : B64 a) (hb : B64 b) (w : World) :
    Calls Try.prog 58 #[.float .f64 a, .float .f64 b] w fun e w' => e = .returned (.bool (sameB a b)) ∧ w' = w := by
  have ea := feq_self a
  have eb := feq_self b
  cases na : nanD a <;> cases nb : nanD b <;> rw [na] at ea <;> rw [nb] at eb <;> simp only [Bool.not_true, Bool.not_false] at ea eb
  · cases za : feq a 0 <;> cases zb : feq b 0
    case true.true =>
      have l1 : flt 0 9218868437227405312 = true := by decide
      have l2 : flt 0 18442240474082181120 = false := by decide
      have q1 := fun w => run_float_arith (P := Try.prog) w .quo 57 .f64 4607182418800017408 0 9218868437227405312 (by decide)
      have q2 := fun w => run_float_arith (P := Try.prog) w .quo 57 .f64 4607182418800017408 9223372036854775808 18442240474082181120 (by decide)
      rcases zero_cases a ha za with rfl | rfl <;> rcases zero_cases b hb zb with rfl | rfl
      all_goals
        go_enter Try.func58, Try.ntmps58
        go_wp2
        go_ret
        exact ⟨ret_bool (by decide), rfl⟩
    all_goals
      have Hs := hide (same_nz a b ha hb na nb (by rw [za, zb]; simp))
      go_enter Try.func58, Try.ntmps58
      go_wp2
      go_ret
      exact ⟨ret_bool Hs.out, rfl⟩
  all_goals
    go_enter Try.func58, Try.ntmps58
    go_wp2
    go_ret
    exact ⟨ret_bool (by unfold sameB; rw [na, nb]; rfl), rfl⟩

theorem und114 : (Try.prog.underlying 114).isSome = true := by rw [Try.underlying114]; rfl
theorem und57 : (Try.prog.underlying 57).isSome = true := by rw [Try.underlying57]; rfl

theorem run_nan_conv (w : World) (src dst : TypeId) (s k : FloatKind) (b : Nat) (hs : (Try.prog.underlying src).isSome = true) (hd : Try.prog.underlying dst = some (.float k)) (hne : s ≠ k) (hn : (s.decode b).isNaN = true) :
    (convert src dst (.float s b)).run Try.prog w = .ok (.float k ((Question.nanConv k b).cut (w.tape w.drawn (Question.nanConv k b)))) w.drew := by
  obtain ⟨u, hs'⟩ := Option.isSome_iff_exists.1 hs
  cases hdec : s.decode b with
  | nan sg fr => cases u <;> simp [convert, run_underlying hs', run_underlying hd, Conv.floatToFloat, hne, hdec, run_choose_drew, Question.forced]
  | number _ _ _ => rw [hdec] at hn; cases hn
  | infinity _ => rw [hdec] at hn; cases hn

theorem run_over_conv (w : World) (b : Nat) (hn : nanD b = false) (ho : over b = true) :
    (convert 57 114 (.float .f64 b)).run Try.prog w = .ok (.float .f32 ((Question.floatToFloat b).cut (w.tape w.drawn (Question.floatToFloat b)))) w.drew := by
  obtain ⟨u, hs'⟩ := Option.isSome_iff_exists.1 und57
  unfold over at ho
  cases hdec : Ieee.double.read b with
  | nan sg fr => rw [hdec] at ho; cases ho
  | infinity _ => rw [hdec] at ho; cases ho
  | number sg m e =>
    rw [hdec] at ho
    have hdec' : FloatKind.f64.decode b = .number sg m e := hdec
    have ho' : (FloatKind.f32.decode (FloatKind.f32.encode (.number sg m e))).isInfinity = true := by
      have : narrow b = FloatKind.f32.encode (.number sg m e) := by unfold narrow; rw [hdec]; rfl
      rw [← this]; exact ho
    cases u <;> simp [convert, run_underlying hs', run_underlying Try.underlying114, Conv.floatToFloat, hdec', ho', run_choose_drew, Question.forced]

theorem nan_cut32 (b t : Nat) : nanS ((Question.nanConv .f32 b).cut t) = true ∧ (Question.nanConv .f32 b).cut t < 4294967296 := by
  rw [nanS_iff]
  simp only [Question.cut]
  rcases Nat.mod_two_eq_zero_or_one t with h | h <;> rw [h] <;> omega
theorem nan_cut64 (b t : Nat) : nanD ((Question.nanConv .f64 b).cut t) = true ∧ (Question.nanConv .f64 b).cut t < 18446744073709551616 := by
  rw [nanD_iff]
  simp only [Question.cut]
  rcases Nat.mod_two_eq_zero_or_one t with h | h <;> rw [h] <;> omega
theorem over_cut (b t : Nat) : (Question.floatToFloat b).cut t < 4294967296 := by
  simp only [Question.cut]
  omega

theorem dec_nanD (b : Nat) (h : nanD b = true) : (FloatKind.f64.decode b).isNaN = true := by
  have h' := (nanD_iff b).1 h
  show (Ieee.double.read b).isNaN = true
  rw [read_nan Ieee.double b (by rw [dW, dI]; exact h') dBI]; rfl
theorem dec_nanS (b : Nat) (h : nanS b = true) : (FloatKind.f32.decode b).isNaN = true := by
  have h' := (nanS_iff b).1 h
  show (Ieee.single.read b).isNaN = true
  rw [read_nan Ieee.single b (by rw [sW, sI]; exact h') sBI]; rfl

theorem narrow_ok (b : Nat) (hn : nanD b = false) (ho : over b = false) : floatToFloatBits .f64 b .f32 = some (narrow b) := by
  unfold floatToFloatBits
  rw [if_neg (by decide)]
  have hnn : ¬ (Ieee.double.infRung < b % Ieee.double.signWeight) := fun h => by
    have : nanD b = true := by unfold nanD nanW; simpa using h
    rw [this] at hn; cases hn
  unfold over at ho
  unfold narrow at *
  show (match Ieee.double.read b with | .nan _ _ => none | .infinity s => some (Ieee.single.write (.infinity s)) | .number s m e => if (Ieee.single.read (Ieee.single.write (.number s m e))).isInfinity then none else some (Ieee.single.write (.number s m e))) = _
  cases hdec : Ieee.double.read b with
  | nan sg fr =>
    exfalso
    unfold Ieee.Format.read at hdec
    dsimp only at hdec
    split at hdec
    · cases hdec
    · split at hdec
      · cases hdec
      · split at hdec
        · cases hdec
        · omega
  | infinity _ => rfl
  | number sg m e =>
    rw [hdec] at ho
    simp only at ho ⊢
    rw [ho]; rfl

theorem wide_ok (u : Nat) (hu : u < 4294967296) (hn : nanS u = false) : floatToFloatBits .f32 u .f64 = some (wide u) := by
  unfold floatToFloatBits
  rw [if_neg (by decide)]
  have hn' : ¬ 2139095040 < u % 2147483648 := fun h => by rw [(nanS_iff u).2 h] at hn; cases hn
  show (match Ieee.single.read u with | .nan _ _ => none | .infinity s => some (Ieee.double.write (.infinity s)) | .number s m e => if (Ieee.double.read (Ieee.double.write (.number s m e))).isInfinity then none else some (Ieee.double.write (.number s m e))) = _
  by_cases hi : u % 2147483648 = 2139095040
  · unfold wide
    rw [read_inf Ieee.single u (by rw [sW, sI]; exact hi) sBI]
  · have hr := read_finite Ieee.single u (by rw [sW, sI]; omega)
    have hw : (Ieee.double.read (wide u)).isInfinity = false := by
      by_cases h0 : u % 2147483648 = 0
      · rw [(wide_zero u hu h0).1, read_word _ _ _ (by rw [dI]; omega)]; rfl
      · obtain ⟨r, h1, h2, h3, h4⟩ := wide_finite u hu (by omega) (by omega)
        rw [h3, read_word _ _ _ h2]; rfl
    unfold wide at *
    rw [hr] at hw ⊢
    simp only
    rw [hw]; rfl

/-- 'float64(float32(x))'. -/
theorem l1Single_any (x : Nat) (hx : B64 x) (w : World) :
    Calls Try.prog 63 #[.float .f64 x] w fun e w' => ∃ r n, e = .returned (.float .f64 r) ∧ SingleR x r ∧ w' = w.drewN n := by
  cases hn : nanD x
  · have up : ∀ (u : Nat) (w1 : World), u < 4294967296 → (nanS u = true ∧ (convert 114 57 (.float .f32 u)).run Try.prog w1 = .ok (.float .f64 ((Question.nanConv .f64 u).cut (w1.tape w1.drawn (Question.nanConv .f64 u)))) w1.drew) ∨ (nanS u = false ∧ (convert 114 57 (.float .f32 u)).run Try.prog w1 = .ok (.float .f64 (wide u)) w1) := fun u w1 hu => by
      cases hs : nanS u
      · exact Or.inr ⟨rfl, run_convert_float_float w1 114 57 .f32 .f64 u (wide u) und114 Try.underlying57 (wide_ok u hu hs)⟩
      · exact Or.inl ⟨rfl, run_nan_conv w1 114 57 .f32 .f64 u und114 Try.underlying57 (by decide) (dec_nanS u hs)⟩
    cases ho : over x
    · have c1 := run_convert_float_float (P := Try.prog) w 57 114 .f64 .f32 x (narrow x) und57 Try.underlying114 (narrow_ok x hn ho)
      have c2 := run_convert_float_float (P := Try.prog) w 114 57 .f32 .f64 (narrow x) (wide (narrow x)) und114 Try.underlying57 (wide_ok _ (narrow_lt x) (nanS_narrow x hn))
      have Hn := hide (nanS_narrow x hn)
      go_enter Try.func63, Try.ntmps63
      go_wp2
      go_ret
      exact ⟨_, 0, rfl, ⟨wide_lt _, Or.inr ⟨hn, narrow x, narrow_lt x, Or.inr rfl, Or.inr ⟨Hn.out, rfl⟩⟩⟩, rfl⟩
    · have c1 := run_over_conv w x hn ho
      have hu := over_cut x (w.tape w.drawn (Question.floatToFloat x))
      generalize hc : (Question.floatToFloat x).cut (w.tape w.drawn (Question.floatToFloat x)) = u at *
      have Hc := hide hc
      clear hc
      rcases up u w.drew hu with ⟨h1, h2⟩ | ⟨h1, h2⟩
      · have hq := nan_cut64 u (w.drew.tape w.drew.drawn (Question.nanConv .f64 u))
        generalize hd : (Question.nanConv .f64 u).cut (w.drew.tape w.drew.drawn (Question.nanConv .f64 u)) = r at *
        have Hd := hide hd
        clear hd
        go_enter Try.func63, Try.ntmps63
        go_wp2
        go_ret
        exact ⟨_, 2, rfl, ⟨hq.2, Or.inr ⟨hn, u, hu, Or.inl ho, Or.inl ⟨h1, hq.1⟩⟩⟩, rfl⟩
      · go_enter Try.func63, Try.ntmps63
        go_wp2
        go_ret
        exact ⟨_, 1, rfl, ⟨wide_lt _, Or.inr ⟨hn, u, hu, Or.inl ho, Or.inr ⟨h1, rfl⟩⟩⟩, rfl⟩
  · have c1 := run_nan_conv w 57 114 .f64 .f32 x und57 Try.underlying114 (by decide) (dec_nanD x hn)
    have hu := nan_cut32 x (w.tape w.drawn (Question.nanConv .f32 x))
    generalize hc : (Question.nanConv .f32 x).cut (w.tape w.drawn (Question.nanConv .f32 x)) = u at *
    have Hc := hide hc
    clear hc
    have c2 := run_nan_conv w.drew 114 57 .f32 .f64 u und114 Try.underlying57 (by decide) (dec_nanS u hu.1)
    have hq := nan_cut64 u (w.drew.tape w.drew.drawn (Question.nanConv .f64 u))
    generalize hd : (Question.nanConv .f64 u).cut (w.drew.tape w.drew.drawn (Question.nanConv .f64 u)) = r at *
    have Hd := hide hd
    clear hd
    go_enter Try.func63, Try.ntmps63
    go_wp2
    go_ret
    exact ⟨_, 2, rfl, ⟨hq.2, Or.inl ⟨hn, hq.1⟩⟩, rfl⟩
end Go.Proofs.Ytbkdfhlbjaiahaa
