import Derived.Test.YthaajmkfeniofaaDraw
namespace Go.Proofs.Ythaajmkfeniofaa
open Go.RowKit FL
set_option linter.unusedSimpArgs false
set_option linter.unusedVariables false

theorem Src.lt {w : World} {b : Nat} {sv : Value} {n : Nat} {at_ mix size : Int} (h : Src w b sv n at_ mix size) : b < w.heap.size := by
  by_cases e : b < w.heap.size
  · exact e
  · have e2 : w.heap[b]? = none := by simp; omega
    have := h.c0
    simp [World.cell?, e2] at this

theorem cut_I64 (dt v : Int) (h : I64 v) : I64 (cutL dt v) := by
  unfold I64 cutL at *
  omega
theorem wrap_I64 (v : Int) : I64 (wrap64 v) := by
  unfold I64
  simp only [wrap64, IntKind.wrap_i64]
  omega

theorem low_rng (dt : Int) : -9223372036854775808 ≤ lowL dt ∧ lowL dt ≤ 0 := by unfold lowL; omega
theorem high_rng (dt : Int) : 1 ≤ highL dt ∧ highL dt ≤ 9223372036854775807 := by unfold highL; omega

theorem l1Cut_ex (dt v : Int) (h : 2 ≤ dt ∧ dt ≤ 6) (hv : I64 v) (w : World) :
    Calls Try.prog 47 #[.int .i64 dt, .int .i64 v] w fun e w' => ∃ c, e = .returned (.int .i64 c) ∧ I64 c ∧ w' = w := by
  refine (l1Cut_any dt v h hv w).mono ?_
  rintro e w' ⟨rfl, rfl⟩
  exact ⟨_, rfl, cut_I64 _ _ hv, rfl⟩

def CellOk (i : Int) (f g : Nat) : Prop := I64 i ∧ B64 f ∧ B64 g

theorem Mut.setNew {b : Nat} {a c : World} (h : Mut b a c) {k : Nat} (hk : a.heap.size ≤ k) (o : Nat) (v : Value) : Mut b a (c.setCell ⟨k, o, none⟩ v) :=
  ⟨h.os, h.tape, h.output, by simpa [World.setCell] using h.size, fun i hi hn => by rw [Below.heap_setCell _ _ _ _ (by show i ≠ k; omega)]; exact h.block i hi hn, fun x => (World.frozen?_setCell _ _ _ _).trans (h.fz x)⟩

theorem cell_other (w : World) (k o k' o' : Nat) (v : Value) (h : k' ≠ k) : (w.setCell ⟨k, o, none⟩ v).cell? ⟨k', o', none⟩ = w.cell? ⟨k', o', none⟩ :=
  World.cell?_of_block (w := w) (a := ⟨k', o', none⟩) (Below.heap_setCell _ _ _ _ h)

theorem Src.setNew {w0 W : World} {b : Nat} {sv : Value} {n : Nat} {a0 x0 z0 a x z : Int} (h0 : Src w0 b sv n a0 x0 z0) (h : Src W b sv n a x z) {k : Nat} (hk : w0.heap.size ≤ k) (o : Nat) (v : Value) : Src (W.setCell ⟨k, o, none⟩ v) b sv n a x z := by
  have hb := h0.lt
  have hne : b ≠ k := by omega
  refine ⟨(cell_other _ _ _ _ _ _ hne).trans h.c0, (cell_other _ _ _ _ _ _ hne).trans h.c1, (cell_other _ _ _ _ _ _ hne).trans h.c2, (cell_other _ _ _ _ _ _ hne).trans h.c3, fun q => (World.frozen?_setCell _ _ _ _).trans (h.fz q), h.at0, h.atn, h.nle, h.mix0, h.mix1, h.size0, h.size1, ?_⟩
  rcases h.code with hc | ⟨g, cap, h1, h2, h3⟩
  · exact Or.inl hc
  · refine Or.inr ⟨g, cap, h1, h2, fun j hj => ?_⟩
    obtain ⟨y, hy, hr⟩ := h3 j hj
    refine ⟨y, ?_, hr⟩
    have hg : g < w0.heap.size := by
      rcases h0.code with ⟨hc, _⟩ | ⟨g', cap', h1', h2', h3'⟩
      · omega
      · have e : g' = g := by rw [h1] at h1'; cases h1'; rfl
        obtain ⟨y', hy', _⟩ := h3' j hj
        rw [e] at hy'
        by_cases e2 : g < w0.heap.size
        · exact e2
        · have e3 : w0.heap[g]? = none := by simp; omega
          simp [World.cell?, e3] at hy'
    rw [cell_other _ _ _ _ _ _ (by omega), hy]

/-- A world W in which a call that began in w stands: its result block is the first new one, still zero. -/
structure At (w W : World) (b : Nat) (sv : Value) (n : Nat) (size : Int) : Prop where
  z0 : W.cell? ⟨w.heap.size, 0, none⟩ = some (.int .i64 0)
  z1 : W.cell? ⟨w.heap.size, 1, none⟩ = some (.float .f64 0)
  z2 : W.cell? ⟨w.heap.size, 2, none⟩ = some (.float .f64 0)
  zf : ∀ o, W.frozen? ⟨w.heap.size, o, none⟩ = false
  src : ∃ a x, Src W b sv n a x size
  mt : Mut b w W

theorem At.start {w : World} {b : Nat} {sv : Value} {n : Nat} {a x z : Int} (h : Src w b sv n a x z) : At w (w.alloc (.cells #[.int .i64 0, .float .f64 0, .float .f64 0] 29)) b sv n z :=
  ⟨by simp, by simp, by simp, fun o => ((Ext.refl w).alloc _ _).unfrozen (Nat.le_refl _) o, ⟨a, x, h.keep ((Ext.refl w).alloc _ _)⟩, ((Ext.refl w).alloc _ _).mut b⟩
theorem At.next {w W W' : World} {b : Nat} {sv : Value} {n : Nat} {a x z : Int} (h0 : b < w.heap.size) (h : At w W b sv n z) (s : Src W' b sv n a x z) (m : Mut b W W') : At w W' b sv n z :=
  ⟨m.box (by omega) h.z0, m.box (by omega) h.z1, m.box (by omega) h.z2, fun o => (m.fz _).trans (h.zf o), ⟨a, x, s⟩, h.mt.trans m⟩
theorem At.drewN {w W : World} {b : Nat} {sv : Value} {n : Nat} {z : Int} (h : At w W b sv n z) (k : Nat) : At w (W.drewN k) b sv n z := by
  obtain ⟨a, x, s⟩ := h.src
  exact ⟨h.z0, h.z1, h.z2, h.zf, ⟨a, x, s.keep ((Ext.refl _).drewN k)⟩, h.mt.drewN k⟩

theorem At.fin {w W : World} {b : Nat} {sv : Value} {n : Nat} {a x z : Int} (h0 : Src w b sv n a x z) (h : At w W b sv n z) (u0 u1 u2 : Value) :
    (∃ a x, Src (((W.setCell ⟨w.heap.size, 0, none⟩ u0).setCell ⟨w.heap.size, 1, none⟩ u1).setCell ⟨w.heap.size, 2, none⟩ u2) b sv n a x z) ∧ Mut b w (((W.setCell ⟨w.heap.size, 0, none⟩ u0).setCell ⟨w.heap.size, 1, none⟩ u1).setCell ⟨w.heap.size, 2, none⟩ u2) := by
  obtain ⟨a, x, s⟩ := h.src
  exact ⟨⟨a, x, h0.setNew (h0.setNew (h0.setNew s (Nat.le_refl _) _ _) (Nat.le_refl _) _ _) (Nat.le_refl _) _ _⟩, ((h.mt.setNew (Nat.le_refl _) _ _).setNew (Nat.le_refl _) _ _).setNew (Nat.le_refl _) _ _⟩

set_option maxHeartbeats 2000000 in
theorem drawCell_bool {w : World} {b : Nat} {sv : Value} {n : Nat} {at_ mix size : Int} (h : Src w b sv n at_ mix size)  :
    Calls Try.prog 88 #[.pointer (some ⟨b, 0, none⟩), .int .i64 1] w fun e w' => ∃ (i : Int) (f g : Nat) (at2 mix2 : Int), e = .returned (.agg #[.int .i64 i, .float .f64 f, .float .f64 g]) ∧ CellOk i f g ∧ Src w' b sv n at2 mix2 size ∧ Mut b w w' := by
  have hb := h.lt
  have hk : skindL 1 = 0 := by decide
  have H0 := hide h
  have A0 := hide (At.start h)
  clear h
  go_enter Try.func88, Try.ntmps88
  go_wp2_with (go_at_call 34; refine (l1Kind_any _ _).mono ?_; rintro e w' ⟨rfl, rfl⟩)
  obtain ⟨ax, xx, sx⟩ := A0.out.src
  refine (next_any sx 2).mono ?_
  clear sx
  rintro e w1 ⟨v1, at1, mix1, rfl, ⟨p1, q1', _⟩, s1, m1⟩
  have q1 := q1' (by decide)
  have A1 := hide (A0.out.next hb s1 m1)
  clear q1' s1 m1
  have z0 := A1.out.z0
  have z1 := A1.out.z1
  have z2 := A1.out.z2
  have zf := A1.out.zf
  go_wp2
  obtain ⟨⟨ax, xx, sx⟩, mx⟩ := At.fin H0.out A1.out (.int .i64 v1) (.float .f64 0) (.float .f64 0)
  exact bodyPost_ret (v := .agg #[.int .i64 v1, .float .f64 0, .float .f64 0]) (by simp [results, Try.results88, go_sem, z0, z1, z2]) rfl ⟨v1, 0, 0, ax, xx, rfl, ⟨by unfold I64; omega, B64_0, B64_0⟩, sx, mx⟩

set_option maxHeartbeats 2000000 in
theorem drawCell_f64 {w : World} {b : Nat} {sv : Value} {n : Nat} {at_ mix size : Int} (h : Src w b sv n at_ mix size)  :
    Calls Try.prog 88 #[.pointer (some ⟨b, 0, none⟩), .int .i64 8] w fun e w' => ∃ (i : Int) (f g : Nat) (at2 mix2 : Int), e = .returned (.agg #[.int .i64 i, .float .f64 f, .float .f64 g]) ∧ CellOk i f g ∧ Src w' b sv n at2 mix2 size ∧ Mut b w w' := by
  have hb := h.lt
  have hk : skindL 8 = 2 := by decide
  have H0 := hide h
  have A0 := hide (At.start h)
  clear h
  go_enter Try.func88, Try.ntmps88
  go_wp2_with (go_at_call 34; refine (l1Kind_any _ _).mono ?_; rintro e w' ⟨rfl, rfl⟩)
  obtain ⟨ax, xx, sx⟩ := A0.out.src
  refine (drawFloat_any sx).mono ?_
  clear sx
  rintro e w1 ⟨r1, at1, mix1, rfl, b1, s1, m1⟩
  have A1 := hide (A0.out.next hb s1 m1)
  clear s1 m1
  go_wp2_with (go_at_call 39; refine (l1RoundN _ (by decide) _ _).mono ?_; rintro e w' ⟨rfl, rfl⟩; have z0 := A1.out.z0; have z1 := A1.out.z1; have z2 := A1.out.z2; have zf := A1.out.zf)
  obtain ⟨⟨ax, xx, sx⟩, mx⟩ := At.fin H0.out A1.out (.int .i64 0) (.float .f64 r1) (.float .f64 0)
  exact bodyPost_ret (v := .agg #[.int .i64 0, .float .f64 r1, .float .f64 0]) (by simp [results, Try.results88, go_sem, z0, z1, z2]) rfl ⟨0, r1, 0, ax, xx, rfl, ⟨by unfold I64; omega, b1, B64_0⟩, sx, mx⟩

set_option maxHeartbeats 2000000 in
theorem drawCell_f32 {w : World} {b : Nat} {sv : Value} {n : Nat} {at_ mix size : Int} (h : Src w b sv n at_ mix size)  :
    Calls Try.prog 88 #[.pointer (some ⟨b, 0, none⟩), .int .i64 7] w fun e w' => ∃ (i : Int) (f g : Nat) (at2 mix2 : Int), e = .returned (.agg #[.int .i64 i, .float .f64 f, .float .f64 g]) ∧ CellOk i f g ∧ Src w' b sv n at2 mix2 size ∧ Mut b w w' := by
  have hb := h.lt
  have hk : skindL 7 = 2 := by decide
  have H0 := hide h
  have A0 := hide (At.start h)
  clear h
  go_enter Try.func88, Try.ntmps88
  go_wp2_with (go_at_call 34; refine (l1Kind_any _ _).mono ?_; rintro e w' ⟨rfl, rfl⟩)
  obtain ⟨ax, xx, sx⟩ := A0.out.src
  refine (drawFloat_any sx).mono ?_
  clear sx
  rintro e w1 ⟨r1, at1, mix1, rfl, b1, s1, m1⟩
  have A1 := hide (A0.out.next hb s1 m1)
  clear s1 m1
  go_wp2_with (go_at_call 39; refine (l1Round7 _ b1 _).mono ?_; rintro e w2 ⟨r, k, rfl, hr, rfl⟩; have A2 := hide (A1.out.drewN k); have z0 := A2.out.z0; have z1 := A2.out.z1; have z2 := A2.out.z2; have zf := A2.out.zf)
  obtain ⟨⟨ax, xx, sx⟩, mx⟩ := At.fin H0.out A2.out (.int .i64 0) (.float .f64 r) (.float .f64 0)
  exact bodyPost_ret (v := .agg #[.int .i64 0, .float .f64 r, .float .f64 0]) (by simp [results, Try.results88, go_sem, z0, z1, z2]) rfl ⟨0, r, 0, ax, xx, rfl, ⟨by unfold I64; omega, hr.1, B64_0⟩, sx, mx⟩

set_option maxHeartbeats 2000000 in
theorem drawCell_c128 {w : World} {b : Nat} {sv : Value} {n : Nat} {at_ mix size : Int} (h : Src w b sv n at_ mix size)  :
    Calls Try.prog 88 #[.pointer (some ⟨b, 0, none⟩), .int .i64 9] w fun e w' => ∃ (i : Int) (f g : Nat) (at2 mix2 : Int), e = .returned (.agg #[.int .i64 i, .float .f64 f, .float .f64 g]) ∧ CellOk i f g ∧ Src w' b sv n at2 mix2 size ∧ Mut b w w' := by
  have hb := h.lt
  have hk : skindL 9 = 3 := by decide
  have H0 := hide h
  have A0 := hide (At.start h)
  clear h
  go_enter Try.func88, Try.ntmps88
  go_wp2_with (go_at_call 34; refine (l1Kind_any _ _).mono ?_; rintro e w' ⟨rfl, rfl⟩)
  obtain ⟨ax, xx, sx⟩ := A0.out.src
  refine (drawFloat_any sx).mono ?_
  clear sx
  rintro e w1 ⟨r1, at1, mix1, rfl, b1, s1, m1⟩
  have A1 := hide (A0.out.next hb s1 m1)
  clear s1 m1
  go_wp2_with fail
  obtain ⟨ax, xx, sx⟩ := A1.out.src
  refine (drawFloat_any sx).mono ?_
  clear sx
  rintro e w2 ⟨r2, at2, mix2, rfl, b2, s2, m2⟩
  have A2 := hide (A1.out.next hb s2 m2)
  clear s2 m2
  have z0 := A2.out.z0
  have z1 := A2.out.z1
  have z2 := A2.out.z2
  have zf := A2.out.zf
  go_wp2
  obtain ⟨⟨ax, xx, sx⟩, mx⟩ := At.fin H0.out A2.out (.int .i64 0) (.float .f64 r1) (.float .f64 r2)
  exact bodyPost_ret (v := .agg #[.int .i64 0, .float .f64 r1, .float .f64 r2]) (by simp [results, Try.results88, go_sem, z0, z1, z2]) rfl ⟨0, r1, r2, ax, xx, rfl, ⟨by unfold I64; omega, b1, b2⟩, sx, mx⟩

set_option maxHeartbeats 2000000 in
theorem drawCell_int {w : World} {b : Nat} {sv : Value} {n : Nat} {at_ mix size : Int} (h : Src w b sv n at_ mix size) {dt : Int} (hd : 2 ≤ dt ∧ dt ≤ 6) :
    Calls Try.prog 88 #[.pointer (some ⟨b, 0, none⟩), .int .i64 dt] w fun e w' => ∃ (i : Int) (f g : Nat) (at2 mix2 : Int), e = .returned (.agg #[.int .i64 i, .float .f64 f, .float .f64 g]) ∧ CellOk i f g ∧ Src w' b sv n at2 mix2 size ∧ Mut b w w' := by
  have Hd := hide hd
  have hlo := low_rng dt
  have hhi := high_rng dt
  have hb := h.lt
  have hk : skindL dt = 1 := by unfold skindL; omega
  have H0 := hide h
  have A0 := hide (At.start h)
  clear h
  go_enter Try.func88, Try.ntmps88
  go_wp2_with (go_at_call 34; refine (l1Kind_any _ _).mono ?_; rintro e w' ⟨rfl, rfl⟩)
  skip
  obtain ⟨ax, xx, sx⟩ := A0.out.src
  refine (next_any sx 12).mono ?_
  clear sx
  rintro e w1 ⟨v1, at1, mix1, rfl, ⟨p1, q1', _⟩, s1, m1⟩
  have q1 := q1' (by decide)
  have A1 := hide (A0.out.next hb s1 m1)
  clear q1' s1 m1
  go_wp2_with fail
  obtain ⟨ax, xx, sx⟩ := A1.out.src
  refine (next_any sx 40).mono ?_
  clear sx
  rintro e w2 ⟨v2, at2, mix2, rfl, ⟨p2, q2', _⟩, s2, m2⟩
  have q2 := q2' (by decide)
  have A2 := hide (A1.out.next hb s2 m2)
  clear q2' s2 m2
  by_cases c0 : v1 = 0
  · subst c0
    go_wp2_with (first | (go_at_call 36; refine (l1Low_any _ _).mono ?_; rintro e w' ⟨rfl, rfl⟩))
    obtain ⟨ax, xx, sx⟩ := A2.out.src
    refine (next_any sx 3).mono ?_
    clear sx
    rintro e w3 ⟨v3, at3, mix3, rfl, ⟨p3, q3', _⟩, s3, m3⟩
    have q3 := q3' (by decide)
    have A3 := hide (A2.out.next hb s3 m3)
    clear q3' s3 m3
    have z0 := A3.out.z0
    have z1 := A3.out.z1
    have z2 := A3.out.z2
    have zf := A3.out.zf
    go_wp2_with (go_at_call 47; refine (l1Cut_ex _ _ Hd.out ?_ _).mono ?_; (first | exact wrap_I64 _ | (unfold I64; omega)); rintro e w' ⟨c, rfl, hcc, rfl⟩)
    obtain ⟨⟨ax, xx, sx⟩, mx⟩ := At.fin H0.out A3.out (.int .i64 c) (.float .f64 0) (.float .f64 0)
    exact bodyPost_ret (v := .agg #[.int .i64 c, .float .f64 0, .float .f64 0]) (by simp [results, Try.results88, go_sem, z0, z1, z2]) rfl ⟨c, 0, 0, ax, xx, rfl, ⟨hcc, B64_0, B64_0⟩, sx, mx⟩
  by_cases c1 : v1 = 1
  · subst c1
    go_wp2_with (first | (go_at_call 37; refine (l1High_any _ _).mono ?_; rintro e w' ⟨rfl, rfl⟩))
    obtain ⟨ax, xx, sx⟩ := A2.out.src
    refine (next_any sx 3).mono ?_
    clear sx
    rintro e w3 ⟨v3, at3, mix3, rfl, ⟨p3, q3', _⟩, s3, m3⟩
    have q3 := q3' (by decide)
    have A3 := hide (A2.out.next hb s3 m3)
    clear q3' s3 m3
    have z0 := A3.out.z0
    have z1 := A3.out.z1
    have z2 := A3.out.z2
    have zf := A3.out.zf
    go_wp2_with (go_at_call 47; refine (l1Cut_ex _ _ Hd.out ?_ _).mono ?_; (first | exact wrap_I64 _ | (unfold I64; omega)); rintro e w' ⟨c, rfl, hcc, rfl⟩)
    obtain ⟨⟨ax, xx, sx⟩, mx⟩ := At.fin H0.out A3.out (.int .i64 c) (.float .f64 0) (.float .f64 0)
    exact bodyPost_ret (v := .agg #[.int .i64 c, .float .f64 0, .float .f64 0]) (by simp [results, Try.results88, go_sem, z0, z1, z2]) rfl ⟨c, 0, 0, ax, xx, rfl, ⟨hcc, B64_0, B64_0⟩, sx, mx⟩
  by_cases c2 : v1 = 2
  · subst c2
    go_wp2_with fail
    obtain ⟨ax, xx, sx⟩ := A2.out.src
    refine (next_any sx 1000).mono ?_
    clear sx
    rintro e w3 ⟨v3, at3, mix3, rfl, ⟨p3, q3', _⟩, s3, m3⟩
    have q3 := q3' (by decide)
    have A3 := hide (A2.out.next hb s3 m3)
    clear q3' s3 m3
    go_wp2_with fail
    obtain ⟨ax, xx, sx⟩ := A3.out.src
    refine (next_any sx 100000).mono ?_
    clear sx
    rintro e w4 ⟨v4, at4, mix4, rfl, ⟨p4, q4', _⟩, s4, m4⟩
    have q4 := q4' (by decide)
    have A4 := hide (A3.out.next hb s4 m4)
    clear q4' s4 m4
    have z0 := A4.out.z0
    have z1 := A4.out.z1
    have z2 := A4.out.z2
    have zf := A4.out.zf
    go_wp2_with (go_at_call 47; refine (l1Cut_ex _ _ Hd.out ?_ _).mono ?_; (first | exact wrap_I64 _ | (unfold I64; omega)); rintro e w' ⟨c, rfl, hcc, rfl⟩)
    obtain ⟨⟨ax, xx, sx⟩, mx⟩ := At.fin H0.out A4.out (.int .i64 c) (.float .f64 0) (.float .f64 0)
    exact bodyPost_ret (v := .agg #[.int .i64 c, .float .f64 0, .float .f64 0]) (by simp [results, Try.results88, go_sem, z0, z1, z2]) rfl ⟨c, 0, 0, ax, xx, rfl, ⟨hcc, B64_0, B64_0⟩, sx, mx⟩
  by_cases c3 : v1 = 3
  · subst c3
    have z0 := A2.out.z0
    have z1 := A2.out.z1
    have z2 := A2.out.z2
    have zf := A2.out.zf
    go_wp2_with (go_at_call 47; refine (l1Cut_ex _ _ Hd.out ?_ _).mono ?_; (first | exact wrap_I64 _ | (unfold I64; omega)); rintro e w' ⟨c, rfl, hcc, rfl⟩)
    obtain ⟨⟨ax, xx, sx⟩, mx⟩ := At.fin H0.out A2.out (.int .i64 c) (.float .f64 0) (.float .f64 0)
    exact bodyPost_ret (v := .agg #[.int .i64 c, .float .f64 0, .float .f64 0]) (by simp [results, Try.results88, go_sem, z0, z1, z2]) rfl ⟨c, 0, 0, ax, xx, rfl, ⟨hcc, B64_0, B64_0⟩, sx, mx⟩
  · have d0 : (v1 == 0) = false := by simpa using c0
    have d1 : (v1 == 1) = false := by simpa using c1
    have d2 : (v1 == 2) = false := by simpa using c2
    have d3 : (v1 == 3) = false := by simpa using c3
    have z0 := A2.out.z0
    have z1 := A2.out.z1
    have z2 := A2.out.z2
    have zf := A2.out.zf
    go_wp2_with (go_at_call 47; refine (l1Cut_ex _ _ Hd.out ?_ _).mono ?_; (first | exact wrap_I64 _ | (unfold I64; omega)); rintro e w' ⟨c, rfl, hcc, rfl⟩)
    obtain ⟨⟨ax, xx, sx⟩, mx⟩ := At.fin H0.out A2.out (.int .i64 c) (.float .f64 0) (.float .f64 0)
    exact bodyPost_ret (v := .agg #[.int .i64 c, .float .f64 0, .float .f64 0]) (by simp [results, Try.results88, go_sem, z0, z1, z2]) rfl ⟨c, 0, 0, ax, xx, rfl, ⟨hcc, B64_0, B64_0⟩, sx, mx⟩

end Go.Proofs.Ythaajmkfeniofaa
