import Derived.Test.YthaajmkfeniofaaCells
import Derived.BigRegion
namespace Go.Proofs.Ythaajmkfeniofaa
open Go.RowKit FL
set_option linter.unusedSimpArgs false
set_option linter.unusedVariables false

/-- The world has new blocks and draws alone. -/
structure Ext (w w' : World) : Prop where
  bl : Below w.heap.size w w'
  fz : ∀ a, w'.frozen? a = w.frozen? a

theorem Ext.refl (w : World) : Ext w w := ⟨Below.refl _ _, fun _ => rfl⟩
theorem Ext.trans {a b c : World} (h : Ext a b) (k : Ext b c) : Ext a c :=
  ⟨h.bl.trans (k.bl.mono h.bl.size), fun x => (k.fz x).trans (h.fz x)⟩
theorem Ext.drew {a b : World} (h : Ext a b) : Ext a b.drew := ⟨h.bl.drew, h.fz⟩
theorem Ext.drewN {a b : World} (h : Ext a b) (n : Nat) : Ext a (b.drewN n) := ⟨below_drewN h.bl n, h.fz⟩
theorem Ext.alloc {a b : World} (h : Ext a b) (c : Array Value) (t : TypeId) : Ext a (b.alloc (.cells c t)) :=
  ⟨h.bl.alloc h.bl.size _, fun x => (frozen?_alloc_cells _ _ _ x).trans (h.fz x)⟩
theorem Ext.setCell {a b : World} (h : Ext a b) {p : Addr} (hp : a.heap.size ≤ p.block) (v : Value) : Ext a (b.setCell p v) :=
  ⟨h.bl.setCell hp v, fun x => (World.frozen?_setCell _ _ _ _).trans (h.fz x)⟩
theorem Ext.cells {W w1 : World} (h : Ext W w1) : (∀ b o, b < W.heap.size → w1.cell? ⟨b, o, none⟩ = W.cell? ⟨b, o, none⟩) ∧ (∀ b o, w1.frozen? ⟨b, o, none⟩ = W.frozen? ⟨b, o, none⟩) ∧ W.heap.size ≤ w1.heap.size :=
  ⟨fun b o hb => h.bl.cell (p := ⟨b, o, none⟩) hb, fun b o => h.fz _, h.bl.size⟩

theorem Ext.box {W w1 : World} (h : Ext W w1) {b o : Nat} {v : Value} (hc : W.cell? ⟨b, o, none⟩ = some v) : w1.cell? ⟨b, o, none⟩ = some v := by
  have hb : b < W.heap.size := by
    by_cases e : b < W.heap.size
    · exact e
    · have e2 : W.heap[b]? = none := by simp; omega
      simp [World.cell?, e2] at hc
  rw [h.bl.cell (p := ⟨b, o, none⟩) hb, hc]

theorem toCell_any (i : Int) (f g : Nat) (w : World) :
    Calls Try.prog 17 #[.agg #[.int .i64 i, .float .f64 f, .float .f64 g]] w fun e w' => e = .returned (.agg #[.int .i64 i, .float .f64 f, .float .f64 g]) ∧ Ext w w' := by
  go_enter Try.func17, Try.ntmps17
  go_wp2
  exact bodyPost_ret (v := .agg #[.int .i64 i, .float .f64 f, .float .f64 g]) (by simp [results, Try.results17, go_sem]) rfl ⟨rfl, by repeat (first | exact Ext.refl _ | apply Ext.drew | apply Ext.alloc)⟩

theorem l1Round7 (x : Nat) (hx : B64 x) (w : World) :
    Calls Try.prog 39 #[.int .i64 7, .float .f64 x] w fun e w' => ∃ r n, e = .returned (.float .f64 r) ∧ SingleR x r ∧ w' = w.drewN n := by
  go_enter Try.func39, Try.ntmps39
  go_wp2_with (go_at_call 74; refine (l1Single_any x hx _).mono ?_; rintro e w' ⟨r, n, rfl, hr, rfl⟩)
  go_ret
  exact ⟨r, n, rfl, hr, rfl⟩

theorem l1RoundN (dt : Int) (hd : (dt == 7) = false) (x : Nat) (w : World) :
    Calls Try.prog 39 #[.int .i64 dt, .float .f64 x] w fun e w' => e = .returned (.float .f64 x) ∧ w' = w := by
  go_enter Try.func39, Try.ntmps39
  go_wp2
  go_ret
  exact ⟨rfl, rfl⟩

theorem isSingle_any (x : Nat) (hx : B64 x) (w : World) :
    Calls Try.prog 42 #[.float .f64 x] w fun e w' => e = .returned (.bool (sngB x)) ∧ ∃ n, w' = w.drewN n := by
  cases hn : nanD x
  · have fin : ∀ r, SingleR x r → feq r x = sngB x := fun r h => by
      cases hs : sngB x
      · exact (singR_not hx h hs).2
      · rcases singR_same h hs with ⟨h1, _⟩ | ⟨h1, h2⟩
        · rw [hn] at h1; cases h1
        · rw [h2, feq_self, hn]; rfl
    have up : ∀ (u : Nat) (w1 : World), u < 4294967296 → (nanS u = true ∧ (convert 58 25 (.float .f32 u)).run Try.prog w1 = .ok (.float .f64 ((Question.nanConv .f64 u).cut (w1.tape w1.drawn (Question.nanConv .f64 u)))) w1.drew) ∨ (nanS u = false ∧ (convert 58 25 (.float .f32 u)).run Try.prog w1 = .ok (.float .f64 (wide u)) w1) := fun u w1 hu => by
      cases hs : nanS u
      · exact Or.inr ⟨rfl, run_convert_float_float w1 58 25 .f32 .f64 u (wide u) und58 Try.underlying25 (wide_ok u hu hs)⟩
      · exact Or.inl ⟨rfl, run_nan_conv w1 58 25 .f32 .f64 u und58 Try.underlying25 (by decide) (dec_nanS u hs)⟩
    cases ho : over x
    · have c1 := run_convert_float_float (P := Try.prog) w 25 58 .f64 .f32 x (narrow x) und25 Try.underlying58 (narrow_ok x hn ho)
      have c2 := run_convert_float_float (P := Try.prog) w 58 25 .f32 .f64 (narrow x) (wide (narrow x)) und58 Try.underlying25 (wide_ok _ (narrow_lt x) (nanS_narrow x hn))
      have Hn := hide (nanS_narrow x hn)
      have Hf := hide (fin (wide (narrow x)) ⟨wide_lt _, Or.inr ⟨hn, narrow x, narrow_lt x, Or.inr rfl, Or.inr ⟨Hn.out, rfl⟩⟩⟩)
      clear fin up
      go_enter Try.func42, Try.ntmps42
      go_wp2_with (go_at_call 76; refine (isNaN_any _ _).mono ?_; rintro e w' ⟨rfl, rfl⟩)
      go_ret
      exact ⟨ret_bool Hf.out, 0, rfl⟩
    · have c1 := run_over_conv w x hn ho
      have hu := over_cut x (w.tape w.drawn (Question.floatToFloat x))
      generalize hc : (Question.floatToFloat x).cut (w.tape w.drawn (Question.floatToFloat x)) = u at *
      have Hc := hide hc
      clear hc
      rcases up u w.drew hu with ⟨h1, h2⟩ | ⟨h1, h2⟩
      · have hq := nan_cut64 u (w.drew.tape w.drew.drawn (Question.nanConv .f64 u))
        generalize hd : (Question.nanConv .f64 u).cut (w.drew.tape w.drew.drawn (Question.nanConv .f64 u)) = r at *
        have Hd := hide hd
        clear hd
        have Hf := hide (fin r ⟨hq.2, Or.inr ⟨hn, u, hu, Or.inl ho, Or.inl ⟨h1, hq.1⟩⟩⟩)
        clear fin up hq
        go_enter Try.func42, Try.ntmps42
        go_wp2_with (go_at_call 76; refine (isNaN_any _ _).mono ?_; rintro e w' ⟨rfl, rfl⟩)
        go_ret
        exact ⟨ret_bool Hf.out, 2, rfl⟩
      · have Hf := hide (fin (wide u) ⟨wide_lt _, Or.inr ⟨hn, u, hu, Or.inl ho, Or.inr ⟨h1, rfl⟩⟩⟩)
        clear fin up
        go_enter Try.func42, Try.ntmps42
        go_wp2_with (go_at_call 76; refine (isNaN_any _ _).mono ?_; rintro e w' ⟨rfl, rfl⟩)
        go_ret
        exact ⟨ret_bool Hf.out, 1, rfl⟩
  · go_enter Try.func42, Try.ntmps42
    go_wp2_with (go_at_call 76; refine (isNaN_any _ _).mono ?_; rintro e w' ⟨rfl, rfl⟩)
    go_ret
    exact ⟨ret_bool (by unfold sngB; rw [hn]; rfl), 0, rfl⟩

def lowL (dt : Int) : Int := if dt = 1 ∨ dt = 3 then 0 else if dt = 2 then -128 else if dt = 4 then -32768 else if dt = 5 then -2147483648 else -9223372036854775808
def highL (dt : Int) : Int := if dt = 1 then 1 else if dt = 3 then 255 else if dt = 2 then 127 else if dt = 4 then 32767 else if dt = 5 then 2147483647 else 9223372036854775807

theorem l1Low_any (dt : Int) (w : World) :
    Calls Try.prog 36 #[.int .i64 dt] w fun e w' => e = .returned (.int .i64 (lowL dt)) ∧ w' = w := by
  go_enter Try.func36, Try.ntmps36
  go_wp2
  all_goals go_ret
  all_goals refine ⟨ret_int ?_, rfl⟩
  all_goals go_light
  all_goals (unfold lowL; simp only [beq_iff_eq, beq_eq_false_iff_ne, ne_eq] at *; omega)
theorem l1High_any (dt : Int) (w : World) :
    Calls Try.prog 37 #[.int .i64 dt] w fun e w' => e = .returned (.int .i64 (highL dt)) ∧ w' = w := by
  go_enter Try.func37, Try.ntmps37
  go_wp2
  all_goals go_ret
  all_goals refine ⟨ret_int ?_, rfl⟩
  all_goals go_light
  all_goals (unfold highL; simp only [beq_iff_eq, beq_eq_false_iff_ne, ne_eq] at *; omega)

def cutL (dt i : Int) : Int :=
  if dt = 2 then (i + 128) % 256 - 128 else if dt = 3 then i % 256 else if dt = 4 then (i + 32768) % 65536 - 32768 else if dt = 5 then (i + 2147483648) % 4294967296 - 2147483648 else i

theorem wrap_i8' (n : Int) : IntKind.i8.wrap n = (n + 128) % 256 - 128 := by
  simp only [IntKind.wrap, IntKind.bits, IntKind.signed, Bool.true_and, decide_eq_true_eq]
  simp; split <;> omega
theorem wrap_i16' (n : Int) : IntKind.i16.wrap n = (n + 32768) % 65536 - 32768 := by
  simp only [IntKind.wrap, IntKind.bits, IntKind.signed, Bool.true_and, decide_eq_true_eq]
  simp; split <;> omega

theorem cutBits_any (dt i : Int) (w : World) :
    Calls Try.prog 41 #[.int .i64 dt, .int .i64 i] w fun e w' => e = .returned (.int .i64 (cutL dt i)) ∧ w' = w := by
  go_enter Try.func41, Try.ntmps41
  go_wp2
  all_goals go_ret
  all_goals refine ⟨ret_int ?_, rfl⟩
  all_goals go_light
  all_goals (unfold cutL; simp only [beq_iff_eq, beq_eq_false_iff_ne, ne_eq, wrap64, wrap32, IntKind.wrap_i64, IntKind.wrap_i32, wrap_i8', wrap_i16'] at *; omega)

def I64 (i : Int) : Prop := -9223372036854775808 ≤ i ∧ i ≤ 9223372036854775807

theorem cut_fix (dt i : Int) (h : 2 ≤ dt ∧ dt ≤ 6) (hi : I64 i) : (cutL dt i == i) = decide (lowL dt ≤ i ∧ i ≤ highL dt) := by
  unfold I64 at hi
  rw [Bool.eq_iff_iff]
  simp only [beq_iff_eq, decide_eq_true_eq]
  unfold cutL lowL highL
  have : dt = 2 ∨ dt = 3 ∨ dt = 4 ∨ dt = 5 ∨ dt = 6 := by omega
  rcases this with rfl | rfl | rfl | rfl | rfl <;> simp <;> omega

def rngB (dt i : Int) : Bool := decide (lowL dt ≤ i ∧ i ≤ highL dt)
def validB (dt i : Int) (f g : Nat) : Bool :=
  if 1 ≤ dt ∧ dt ≤ 6 then rngB dt i && pzB f && pzB g
  else if dt = 7 then i == 0 && pzB g && sngB f
  else if dt = 8 then i == 0 && pzB g
  else if dt = 9 then i == 0 else false

set_option maxHeartbeats 1000000 in
theorem iValid_int (dt i : Int) (f g : Nat) (h : 2 ≤ dt ∧ dt ≤ 6) (hi : I64 i) (hf : B64 f) (hg : B64 g) (w : World) :
    Calls Try.prog 18 #[.int .i64 dt, .agg #[.int .i64 i, .float .f64 f, .float .f64 g]] w fun e w' => e = .returned (.bool (rngB dt i && pzB f && pzB g)) ∧ Ext w w' := by
  have hk : kindL dt = 1 := by unfold kindL; omega
  have hc := cut_fix dt i h hi
  rw [show decide (lowL dt ≤ i ∧ i ≤ highL dt) = rngB dt i from rfl] at hc
  have Hh := hide h
  clear h
  cases h1 : rngB dt i <;> cases h2 : pzB f <;> rw [h1] at hc
  all_goals
    go_enter Try.func18, Try.ntmps18
    go_wp2_with (go_at_call 35; refine (kindOf_any _ _).mono ?_; rintro e w' ⟨rfl, rfl⟩)
    go_quiet (first | (go_at_call 41; exact Calls.quiet_of_same (cutBits_any _ _ _)) | (go_at_call 40; exact Calls.quiet_of_same (isPlusZero_any _ (by assumption) _)))
    go_wp2
    go_ret
    exact ⟨rfl, by repeat (first | exact Ext.refl _ | apply Ext.drewN | apply Ext.drew | apply Ext.alloc)⟩

set_option maxHeartbeats 1000000 in
theorem iValid_bool (i : Int) (f g : Nat) (hf : B64 f) (hg : B64 g) (w : World) :
    Calls Try.prog 18 #[.int .i64 1, .agg #[.int .i64 i, .float .f64 f, .float .f64 g]] w fun e w' => e = .returned (.bool (rngB 1 i && pzB f && pzB g)) ∧ Ext w w' := by
  have hk : kindL 1 = 0 := by decide
  have hr : rngB 1 i = (i == 0 || i == 1) := by
    unfold rngB lowL highL
    rw [Bool.eq_iff_iff]; simp; omega
  rw [hr]
  clear hr
  cases h0 : (i == 0) <;> cases h1 : (i == 1) <;> cases h2 : pzB f
  all_goals
    go_enter Try.func18, Try.ntmps18
    go_wp2_with (first | (go_at_call 35; refine (kindOf_any _ _).mono ?_; rintro e w' ⟨rfl, rfl⟩) | (go_at_call 40; refine (isPlusZero_any _ ?_ _).mono ?_; assumption; rintro e w' ⟨rfl, rfl⟩))
    go_ret
    exact ⟨rfl, by repeat (first | exact Ext.refl _ | apply Ext.drewN | apply Ext.drew | apply Ext.alloc)⟩

set_option maxHeartbeats 1000000 in
theorem iValid_f64 (i : Int) (f g : Nat) (hf : B64 f) (hg : B64 g) (w : World) :
    Calls Try.prog 18 #[.int .i64 8, .agg #[.int .i64 i, .float .f64 f, .float .f64 g]] w fun e w' => e = .returned (.bool (i == 0 && pzB g)) ∧ Ext w w' := by
  have hk : kindL 8 = 2 := by decide
  cases h0 : (i == 0) <;> cases h2 : pzB g
  all_goals
    go_enter Try.func18, Try.ntmps18
    go_wp2_with (first | (go_at_call 35; refine (kindOf_any _ _).mono ?_; rintro e w' ⟨rfl, rfl⟩) | (go_at_call 40; refine (isPlusZero_any _ ?_ _).mono ?_; assumption; rintro e w' ⟨rfl, rfl⟩))
    go_ret
    exact ⟨rfl, by repeat (first | exact Ext.refl _ | apply Ext.drewN | apply Ext.drew | apply Ext.alloc)⟩

set_option maxHeartbeats 1000000 in
theorem iValid_f32 (i : Int) (f g : Nat) (hf : B64 f) (hg : B64 g) (w : World) :
    Calls Try.prog 18 #[.int .i64 7, .agg #[.int .i64 i, .float .f64 f, .float .f64 g]] w fun e w' => e = .returned (.bool (i == 0 && pzB g && sngB f)) ∧ Ext w w' := by
  have hk : kindL 7 = 2 := by decide
  cases h0 : (i == 0) <;> cases h2 : pzB g
  all_goals
    go_enter Try.func18, Try.ntmps18
    go_wp2_with (first | (go_at_call 35; refine (kindOf_any _ _).mono ?_; rintro e w' ⟨rfl, rfl⟩) | (go_at_call 40; refine (isPlusZero_any _ ?_ _).mono ?_; assumption; rintro e w' ⟨rfl, rfl⟩) | (go_at_call 42; refine (isSingle_any _ ?_ _).mono ?_; assumption; rintro e w' ⟨rfl, n, rfl⟩))
    go_ret
    exact ⟨rfl, by repeat (first | exact Ext.refl _ | apply Ext.drewN | apply Ext.drew | apply Ext.alloc)⟩

set_option maxHeartbeats 1000000 in
theorem iValid_c128 (i : Int) (f g : Nat) (hf : B64 f) (hg : B64 g) (w : World) :
    Calls Try.prog 18 #[.int .i64 9, .agg #[.int .i64 i, .float .f64 f, .float .f64 g]] w fun e w' => e = .returned (.bool (i == 0)) ∧ Ext w w' := by
  have hk : kindL 9 = 3 := by decide
  go_enter Try.func18, Try.ntmps18
  go_wp2_with (first | (go_at_call 35; refine (kindOf_any _ _).mono ?_; rintro e w' ⟨rfl, rfl⟩))
  go_ret
  exact ⟨rfl, by repeat (first | exact Ext.refl _ | apply Ext.drewN | apply Ext.drew | apply Ext.alloc)⟩

set_option maxHeartbeats 1000000 in
theorem iValid_no (dt i : Int) (f g : Nat) (h : ¬ (1 ≤ dt ∧ dt ≤ 9)) (w : World) :
    Calls Try.prog 18 #[.int .i64 dt, .agg #[.int .i64 i, .float .f64 f, .float .f64 g]] w fun e w' => e = .returned (.bool false) ∧ Ext w w' := by
  have hk : kindL dt = -1 := by unfold kindL; omega
  clear h
  go_enter Try.func18, Try.ntmps18
  go_wp2_with (first | (go_at_call 35; refine (kindOf_any _ _).mono ?_; rintro e w' ⟨rfl, rfl⟩))
  go_ret
  exact ⟨rfl, by repeat (first | exact Ext.refl _ | apply Ext.drewN | apply Ext.drew | apply Ext.alloc)⟩

theorem iValid_any (dt i : Int) (f g : Nat) (hi : I64 i) (hf : B64 f) (hg : B64 g) (w : World) :
    Calls Try.prog 18 #[.int .i64 dt, .agg #[.int .i64 i, .float .f64 f, .float .f64 g]] w fun e w' => e = .returned (.bool (validB dt i f g)) ∧ Ext w w' := by
  by_cases h1 : dt = 1
  · subst h1; exact iValid_bool i f g hf hg w
  by_cases h2 : 2 ≤ dt ∧ dt ≤ 6
  · have e : validB dt i f g = (rngB dt i && pzB f && pzB g) := by unfold validB; rw [if_pos (by omega)]
    rw [e]; exact iValid_int dt i f g h2 hi hf hg w
  by_cases h7 : dt = 7
  · subst h7; exact iValid_f32 i f g hf hg w
  by_cases h8 : dt = 8
  · subst h8; exact iValid_f64 i f g hf hg w
  by_cases h9 : dt = 9
  · subst h9; exact iValid_c128 i f g hf hg w
  have e : validB dt i f g = false := by unfold validB; rw [if_neg (by omega), if_neg h7, if_neg h8, if_neg h9]
  rw [e]; exact iValid_no dt i f g (by omega) w
end Go.Proofs.Ythaajmkfeniofaa
