import Derived.Test.YthaajmkfeniofaaSource
namespace Go.Proofs.Ythaajmkfeniofaa
open Go.RowKit FL
set_option linter.unusedSimpArgs false
set_option linter.unusedVariables false

set_option maxRecDepth 100000 in
set_option maxHeartbeats 3200000 in
theorem source_nil (w : World) : Calls Try.prog 58 #[.slice none 0 0] w fun e w' => SourceOk w e w' := by
  have S0 := hide (L1.start w)
  go_enter Try.func58, Try.ntmps58
  go_wp2
  go_loopw [4] (fun i wr => i = .int .i64 0 ∧ L1 w wr 0 (.slice none 0 0) [] 0 0) (fun _ _ => 0)
  case atStart => exact ⟨rfl, S0.out⟩
  case round =>
    obtain ⟨rfl, hL⟩ := hrel
    have HL := hide hL
    clear hL
    have c0 := HL.out.c0
    have c2 := HL.out.c2
    have cf := HL.out.fz
    have M0 := hide (HL.out.setMix 41)
    go_wp2
    go_loopw [5] (fun i wr2 => i = .int .i64 0 ∧ L1 w wr2 0 (.slice none 0 0) [] 41 0) (fun _ _ => 0)
    case atStart => exact ⟨rfl, M0.out⟩
    case round =>
      obtain ⟨rfl, hL2⟩ := hrel
      have H2 := hide hL2
      clear hL2
      have e0 := H2.out.c0
      have e2 := H2.out.c2
      have e3 := H2.out.c3
      have ef := H2.out.fz
      go_wp2
      go_ret
      have Z := H2.out.setSize 1
      exact ⟨w.heap.size, .slice none 0 0, 0, 41, 1, rfl, Z.src (by omega) ⟨by omega, by omega⟩ ⟨by omega, by omega⟩, Nat.le_refl _, Z.bl⟩

/-- Two result blocks, the first two new ones, still zero. -/
structure At2 (w W : World) (b : Nat) (sv : Value) (n : Nat) (size : Int) : Prop where
  z0 : W.cell? ⟨w.heap.size, 0, none⟩ = some (.int .i64 0)
  z1 : W.cell? ⟨w.heap.size, 1, none⟩ = some (.float .f64 0)
  z2 : W.cell? ⟨w.heap.size, 2, none⟩ = some (.float .f64 0)
  y0 : W.cell? ⟨w.heap.size + 1, 0, none⟩ = some (.int .i64 0)
  y1 : W.cell? ⟨w.heap.size + 1, 1, none⟩ = some (.float .f64 0)
  y2 : W.cell? ⟨w.heap.size + 1, 2, none⟩ = some (.float .f64 0)
  zf : ∀ o, W.frozen? ⟨w.heap.size, o, none⟩ = false
  yf : ∀ o, W.frozen? ⟨w.heap.size + 1, o, none⟩ = false
  src : ∃ a x, Src W b sv n a x size
  mt : Mut b w W
  sz : w.heap.size + 1 < W.heap.size

theorem At2.start {w : World} {b : Nat} {sv : Value} {n : Nat} {a x z : Int} (h : Src w b sv n a x z) : At2 w ((w.alloc (.cells #[.int .i64 0, .float .f64 0, .float .f64 0] 29)).alloc (.cells #[.int .i64 0, .float .f64 0, .float .f64 0] 29)) b sv n z :=
  ⟨by simp, by simp, by simp, by simp, by simp, by simp, fun o => (((Ext.refl w).alloc _ _).alloc _ _).unfrozen (Nat.le_refl _) o, fun o => (((Ext.refl w).alloc _ _).alloc _ _).unfrozen (by omega) o, ⟨a, x, h.keep (((Ext.refl w).alloc _ _).alloc _ _)⟩, (((Ext.refl w).alloc _ _).alloc _ _).mut b, by simp⟩
theorem At2.next {w W W' : World} {b : Nat} {sv : Value} {n : Nat} {a x z : Int} (h0 : b < w.heap.size) (h : At2 w W b sv n z) (s : Src W' b sv n a x z) (m : Mut b W W') : At2 w W' b sv n z :=
  ⟨m.box (by omega) h.z0, m.box (by omega) h.z1, m.box (by omega) h.z2, m.box (by omega) h.y0, m.box (by omega) h.y1, m.box (by omega) h.y2, fun o => (m.fz _).trans (h.zf o), fun o => (m.fz _).trans (h.yf o), ⟨a, x, s⟩, h.mt.trans m, Nat.lt_of_lt_of_le h.sz m.size⟩
theorem At2.alloc {w W : World} {b : Nat} {sv : Value} {n : Nat} {z : Int} (h : At2 w W b sv n z) (c : Array Value) (t : TypeId) : At2 w (W.alloc (.cells c t)) b sv n z := by
  have x : Ext W (W.alloc (.cells c t)) := (Ext.refl W).alloc c t
  obtain ⟨a, y, s⟩ := h.src
  exact ⟨x.box h.z0, x.box h.z1, x.box h.z2, x.box h.y0, x.box h.y1, x.box h.y2, fun o => (x.fz _).trans (h.zf o), fun o => (x.fz _).trans (h.yf o), ⟨a, y, s.keep x⟩, h.mt.trans (x.mut b), Nat.lt_of_lt_of_le h.sz x.bl.size⟩
theorem At2.set {w W : World} {b : Nat} {sv : Value} {n : Nat} {a x z : Int} (h0 : Src w b sv n a x z) (h : At2 w W b sv n z) {k : Nat} (hk : w.heap.size + 1 < k) (o : Nat) (v : Value) : At2 w (W.setCell ⟨k, o, none⟩ v) b sv n z := by
  obtain ⟨a', x', s⟩ := h.src
  have ne : ∀ q, q ≤ w.heap.size + 1 → q ≠ k := fun q hq => by omega
  exact ⟨(cell_other _ _ _ _ _ _ (ne _ (by omega))).trans h.z0, (cell_other _ _ _ _ _ _ (ne _ (by omega))).trans h.z1, (cell_other _ _ _ _ _ _ (ne _ (by omega))).trans h.z2, (cell_other _ _ _ _ _ _ (ne _ (by omega))).trans h.y0, (cell_other _ _ _ _ _ _ (ne _ (by omega))).trans h.y1, (cell_other _ _ _ _ _ _ (ne _ (by omega))).trans h.y2, fun q => (World.frozen?_setCell _ _ _ _).trans (h.zf q), fun q => (World.frozen?_setCell _ _ _ _).trans (h.yf q), ⟨a', x', h0.setNew s (by omega) _ _⟩, h.mt.setNew (by omega) _ _, by simpa [World.setCell] using h.sz⟩

theorem At2.fin {w W : World} {b : Nat} {sv : Value} {n : Nat} {a x z : Int} (h0 : Src w b sv n a x z) (h : At2 w W b sv n z) (u0 u1 u2 t0 t1 t2 : Value) :
    ∀ W', W' = ((((((W.setCell ⟨w.heap.size, 0, none⟩ u0).setCell ⟨w.heap.size, 1, none⟩ u1).setCell ⟨w.heap.size, 2, none⟩ u2).setCell ⟨w.heap.size + 1, 0, none⟩ t0).setCell ⟨w.heap.size + 1, 1, none⟩ t1).setCell ⟨w.heap.size + 1, 2, none⟩ t2).drew → (∃ a x, Src W' b sv n a x z) ∧ Mut b w W' := by
  rintro W' rfl
  obtain ⟨a, x, s⟩ := h.src
  have e0 : w.heap.size ≤ w.heap.size := Nat.le_refl _
  have e1 : w.heap.size ≤ w.heap.size + 1 := by omega
  exact ⟨⟨a, x, Src.keep (h0.setNew (h0.setNew (h0.setNew (h0.setNew (h0.setNew (h0.setNew s e0 _ _) e0 _ _) e0 _ _) e1 _ _) e1 _ _) e1 _ _) (Ext.refl _).drew⟩, ((((((h.mt.setNew e0 _ _).setNew e0 _ _).setNew e0 _ _).setNew e1 _ _).setNew e1 _ _).setNew e1 _ _).drew⟩

theorem At2.fin2 {w W : World} {b : Nat} {sv : Value} {n : Nat} {a x z : Int} (h0 : Src w b sv n a x z) (h : At2 w W b sv n z) (u0 u1 u2 t0 t1 t2 : Value) :
    ∀ W', W' = ((((((W.setCell ⟨w.heap.size + 1, 0, none⟩ t0).setCell ⟨w.heap.size + 1, 1, none⟩ t1).setCell ⟨w.heap.size + 1, 2, none⟩ t2).setCell ⟨w.heap.size, 0, none⟩ u0).setCell ⟨w.heap.size, 1, none⟩ u1).setCell ⟨w.heap.size, 2, none⟩ u2).drew → (∃ a x, Src W' b sv n a x z) ∧ Mut b w W' := by
  rintro W' rfl
  obtain ⟨a, x, s⟩ := h.src
  have e0 : w.heap.size ≤ w.heap.size := Nat.le_refl _
  have e1 : w.heap.size ≤ w.heap.size + 1 := by omega
  exact ⟨⟨a, x, Src.keep (h0.setNew (h0.setNew (h0.setNew (h0.setNew (h0.setNew (h0.setNew s e1 _ _) e1 _ _) e1 _ _) e0 _ _) e0 _ _) e0 _ _) (Ext.refl _).drew⟩, ((((((h.mt.setNew e1 _ _).setNew e1 _ _).setNew e1 _ _).setNew e0 _ _).setNew e0 _ _).setNew e0 _ _).drew⟩

structure Loc2 (w W : World) (k : Nat) (i : Int) (f g : Nat) : Prop where
  c0 : W.cell? ⟨k, 0, none⟩ = some (.int .i64 i)
  c1 : W.cell? ⟨k, 1, none⟩ = some (.float .f64 f)
  c2 : W.cell? ⟨k, 2, none⟩ = some (.float .f64 g)
  fz : ∀ o, W.frozen? ⟨k, o, none⟩ = false
  gt : w.heap.size + 1 < k
theorem Loc2.next {w W W' : World} {b k : Nat} {i : Int} {f g : Nat} (hb : b < w.heap.size) (h : Loc2 w W k i f g) (m : Mut b W W') : Loc2 w W' k i f g :=
  ⟨m.box (by have := h.gt; omega) h.c0, m.box (by have := h.gt; omega) h.c1, m.box (by have := h.gt; omega) h.c2, fun o => (m.fz _).trans (h.fz o), h.gt⟩
theorem Loc2.start {w W : World} (h : w.heap.size + 1 < W.heap.size) (i : Int) (f g : Nat) : Loc2 w (W.alloc (.cells #[.int .i64 i, .float .f64 f, .float .f64 g] 29)) W.heap.size i f g :=
  ⟨by simp, by simp, by simp, fun o => ((Ext.refl W).alloc _ _).unfrozen (Nat.le_refl _) o, h⟩
theorem Loc2.ext {w W W' : World} {k : Nat} {i : Int} {f g : Nat} (h : Loc2 w W k i f g) (x : Ext W W') : Loc2 w W' k i f g :=
  ⟨x.box h.c0, x.box h.c1, x.box h.c2, fun o => (x.fz _).trans (h.fz o), h.gt⟩

set_option maxHeartbeats 2000000 in
theorem drawPair_any {w : World} {b : Nat} {sv : Value} {n : Nat} {at_ mix size : Int} (h : Src w b sv n at_ mix size) :
    Calls Try.prog 57 #[.pointer (some ⟨b, 0, none⟩)] w fun e w' => ∃ (dt ia : Int) (fa ga : Nat) (ib : Int) (fb gb : Nat) (at2 mix2 : Int), e = .returned (.tuple #[.int .i64 dt, .agg #[.int .i64 ia, .float .f64 fa, .float .f64 ga], .agg #[.int .i64 ib, .float .f64 fb, .float .f64 gb]]) ∧ CellOk ia fa ga ∧ CellOk ib fb gb ∧ Src w' b sv n at2 mix2 size ∧ Mut b w w' := by
  have hb := h.lt
  have H0 := hide h
  have A0 := hide (At2.start h)
  clear h
  go_enter Try.func57, Try.ntmps57
  go_wp2_with fail
  obtain ⟨ax, xx, sx⟩ := A0.out.src
  refine (drawAny_any sx).mono ?_
  clear sx
  rintro e w1 ⟨dt, i, f, g, at1, mix1, rfl, hd, hok, s1, m1⟩
  have A1 := hide (A0.out.next hb s1 m1)
  have Hok := hide hok
  clear s1 m1 hok
  have L1 := hide (Loc2.start A1.out.sz i f g)
  have A1' := hide (A1.out.alloc #[.int .i64 i, .float .f64 f, .float .f64 g] 29)
  have L1b : Hid (Loc2 w ((w1.alloc (Obj.cells #[.int .i64 i, .float .f64 f, .float .f64 g] 29)).alloc (Obj.cells #[.int .i64 i, .float .f64 f, .float .f64 g] 29)) (w1.heap.size + 1) i f g) := by
    have hh := Loc2.start A1'.out.sz i f g
    have e : (w1.alloc (Obj.cells #[.int .i64 i, .float .f64 f, .float .f64 g] 29)).heap.size = w1.heap.size + 1 := by simp
    rw [e] at hh; exact hh
  have L1a := hide (L1.out.ext ((Ext.refl _).alloc #[.int .i64 i, .float .f64 f, .float .f64 g] 29))
  have A2 := hide (A1'.out.alloc #[.int .i64 i, .float .f64 f, .float .f64 g] 29)
  clear A1' L1
  cases hdt : isDtB dt
  · go_wp2_with (go_at_call 32; refine (l1IsDType_any _ _).mono ?_; rintro e w' ⟨rfl, rfl⟩)
    generalize hW2 : (w1.alloc (Obj.cells #[.int .i64 i, .float .f64 f, .float .f64 g] 29)).alloc (Obj.cells #[.int .i64 i, .float .f64 f, .float .f64 g] 29) = W2 at *
    have HW := hide hW2
    clear hW2
    have z0 := A2.out.z0
    have z1 := A2.out.z1
    have z2 := A2.out.z2
    have y0 := A2.out.y0
    have y1 := A2.out.y1
    have y2 := A2.out.y2
    have zf := A2.out.zf
    have yf := A2.out.yf
    have l0 := L1a.out.c0
    have l1 := L1a.out.c1
    have l2 := L1a.out.c2
    have k0 := L1b.out.c0
    have k1 := L1b.out.c1
    have k2 := L1b.out.c2
    have lf := L1a.out.fz
    have kf := L1b.out.fz
    have ga' := L1a.out.gt
    have gb' := L1b.out.gt
    go_wp2_with fail
    go_region
    all_goals go_wp2
    all_goals
      have hfin := fun W' hW' => At2.fin H0.out A2.out (.int .i64 i) (.float .f64 f) (.float .f64 g) (.int .i64 i) (.float .f64 f) (.float .f64 g) W' hW'
      have hfin2 := fun W' hW' => At2.fin2 H0.out A2.out (.int .i64 i) (.float .f64 f) (.float .f64 g) (.int .i64 i) (.float .f64 f) (.float .f64 g) W' hW'
      first
        | (obtain ⟨⟨ax, xx, sx⟩, mx⟩ := hfin _ rfl; exact bodyPost_ret (v := .tuple #[.int .i64 dt, .agg #[.int .i64 i, .float .f64 f, .float .f64 g], .agg #[.int .i64 i, .float .f64 f, .float .f64 g]]) (by simp [results, Try.results57, go_sem, z0, z1, z2, y0, y1, y2, ga', gb']) rfl ⟨dt, i, f, g, i, f, g, ax, xx, rfl, Hok.out, Hok.out, sx, mx⟩)
        | (obtain ⟨⟨ax, xx, sx⟩, mx⟩ := hfin2 _ rfl; exact bodyPost_ret (v := .tuple #[.int .i64 dt, .agg #[.int .i64 i, .float .f64 f, .float .f64 g], .agg #[.int .i64 i, .float .f64 f, .float .f64 g]]) (by simp [results, Try.results57, go_sem, z0, z1, z2, y0, y1, y2, ga', gb']) rfl ⟨dt, i, f, g, i, f, g, ax, xx, rfl, Hok.out, Hok.out, sx, mx⟩)
  · have Hd := hide (by simpa [isDtB] using hdt : 1 ≤ dt ∧ dt ≤ 9)
    go_wp2_with (go_at_call 32; refine (l1IsDType_any _ _).mono ?_; rintro e w' ⟨rfl, rfl⟩)
    obtain ⟨ax, xx, sx⟩ := A2.out.src
    refine (next_any sx 6).mono ?_
    clear sx
    rintro e w3 ⟨v3, at3, mix3, rfl, ⟨p3, q3', _⟩, s3, m3⟩
    have A3 := hide (A2.out.next hb s3 m3)
    have La3 := hide (L1a.out.next hb m3)
    have Lb3 := hide (L1b.out.next hb m3)
    clear s3 m3 q3'
    by_cases hv : v3 = 0
    · subst hv
      have z0 := A3.out.z0
      have z1 := A3.out.z1
      have z2 := A3.out.z2
      have y0 := A3.out.y0
      have y1 := A3.out.y1
      have y2 := A3.out.y2
      have zf := A3.out.zf
      have yf := A3.out.yf
      have l0 := La3.out.c0
      have l1 := La3.out.c1
      have l2 := La3.out.c2
      have k0 := Lb3.out.c0
      have k1 := Lb3.out.c1
      have k2 := Lb3.out.c2
      have lf := La3.out.fz
      have kf := Lb3.out.fz
      have ga' := La3.out.gt
      have gb' := Lb3.out.gt
      go_wp2_with fail
      go_region
      all_goals go_wp2
      all_goals
        have hfin := fun W' hW' => At2.fin H0.out A3.out (.int .i64 i) (.float .f64 f) (.float .f64 g) (.int .i64 i) (.float .f64 f) (.float .f64 g) W' hW'
        have hfin2 := fun W' hW' => At2.fin2 H0.out A3.out (.int .i64 i) (.float .f64 f) (.float .f64 g) (.int .i64 i) (.float .f64 f) (.float .f64 g) W' hW'
        first
          | (obtain ⟨⟨ax, xx, sx⟩, mx⟩ := hfin _ rfl; exact bodyPost_ret (v := .tuple #[.int .i64 dt, .agg #[.int .i64 i, .float .f64 f, .float .f64 g], .agg #[.int .i64 i, .float .f64 f, .float .f64 g]]) (by simp [results, Try.results57, go_sem, z0, z1, z2, y0, y1, y2, ga', gb']) rfl ⟨dt, i, f, g, i, f, g, ax, xx, rfl, Hok.out, Hok.out, sx, mx⟩)
          | (obtain ⟨⟨ax, xx, sx⟩, mx⟩ := hfin2 _ rfl; exact bodyPost_ret (v := .tuple #[.int .i64 dt, .agg #[.int .i64 i, .float .f64 f, .float .f64 g], .agg #[.int .i64 i, .float .f64 f, .float .f64 g]]) (by simp [results, Try.results57, go_sem, z0, z1, z2, y0, y1, y2, ga', gb']) rfl ⟨dt, i, f, g, i, f, g, ax, xx, rfl, Hok.out, Hok.out, sx, mx⟩)
    · have hv' : (v3 != 0) = true := by simpa using hv
      go_wp2_with fail
      obtain ⟨ax, xx, sx⟩ := A3.out.src
      refine (drawCell_any sx Hd.out).mono ?_
      clear sx
      rintro e w4 ⟨i4, f4, g4, at4, mix4, rfl, hok4, s4, m4⟩
      have A4 := hide (A3.out.next hb s4 m4)
      have La4 := hide (La3.out.next hb m4)
      have Lb4 := hide (Lb3.out.next hb m4)
      have Hok4 := hide hok4
      clear s4 m4 hok4
      have z0 := A4.out.z0
      have z1 := A4.out.z1
      have z2 := A4.out.z2
      have y0 := A4.out.y0
      have y1 := A4.out.y1
      have y2 := A4.out.y2
      have zf := A4.out.zf
      have yf := A4.out.yf
      have l0 := La4.out.c0
      have l1 := La4.out.c1
      have l2 := La4.out.c2
      have k0 := Lb4.out.c0
      have k1 := Lb4.out.c1
      have k2 := Lb4.out.c2
      have lf := La4.out.fz
      have kf := Lb4.out.fz
      have ga' := La4.out.gt
      have gb' := Lb4.out.gt
      go_wp2_with fail
      go_region
      all_goals go_wp2
      all_goals
        have hfin := fun W' hW' => At2.fin H0.out (At2.set H0.out (At2.set H0.out (At2.set H0.out A4.out gb' 0 (.int .i64 i4)) gb' 1 (.float .f64 f4)) gb' 2 (.float .f64 g4)) (.int .i64 i) (.float .f64 f) (.float .f64 g) (.int .i64 i4) (.float .f64 f4) (.float .f64 g4) W' hW'
        have hfin2 := fun W' hW' => At2.fin2 H0.out (At2.set H0.out (At2.set H0.out (At2.set H0.out A4.out gb' 0 (.int .i64 i4)) gb' 1 (.float .f64 f4)) gb' 2 (.float .f64 g4)) (.int .i64 i) (.float .f64 f) (.float .f64 g) (.int .i64 i4) (.float .f64 f4) (.float .f64 g4) W' hW'
        first
          | (obtain ⟨⟨ax, xx, sx⟩, mx⟩ := hfin _ rfl; exact bodyPost_ret (v := .tuple #[.int .i64 dt, .agg #[.int .i64 i, .float .f64 f, .float .f64 g], .agg #[.int .i64 i4, .float .f64 f4, .float .f64 g4]]) (by simp [results, Try.results57, go_sem, z0, z1, z2, y0, y1, y2, ga', gb']) rfl ⟨dt, i, f, g, i4, f4, g4, ax, xx, rfl, Hok.out, Hok4.out, sx, mx⟩)
          | (obtain ⟨⟨ax, xx, sx⟩, mx⟩ := hfin2 _ rfl; exact bodyPost_ret (v := .tuple #[.int .i64 dt, .agg #[.int .i64 i, .float .f64 f, .float .f64 g], .agg #[.int .i64 i4, .float .f64 f4, .float .f64 g4]]) (by simp [results, Try.results57, go_sem, z0, z1, z2, y0, y1, y2, ga', gb']) rfl ⟨dt, i, f, g, i4, f4, g4, ax, xx, rfl, Hok.out, Hok4.out, sx, mx⟩)
end Go.Proofs.Ythaajmkfeniofaa
