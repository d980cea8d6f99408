import Derived.Test.YthaajmkfeniofaaDraw2
import Derived.RegionTactic
import Derived.ChangeAlike
namespace Go.Proofs.Ythaajmkfeniofaa
open Go.RowKit FL
set_option linter.unusedSimpArgs false
set_option linter.unusedVariables false

theorem drawCell_any {w : World} {b : Nat} {sv : Value} {n : Nat} {at_ mix size : Int} (h : Src w b sv n at_ mix size) {dt : Int} (hd : 1 ≤ dt ∧ dt ≤ 9) :
    Calls Try.prog 88 #[.pointer (some ⟨b, 0, none⟩), .int .i64 dt] w fun e w' => ∃ (i : Int) (f g : Nat) (at2 mix2 : Int), e = .returned (.agg #[.int .i64 i, .float .f64 f, .float .f64 g]) ∧ CellOk i f g ∧ Src w' b sv n at2 mix2 size ∧ Mut b w w' := by
  by_cases h1 : dt = 1
  · subst h1; exact drawCell_bool h
  by_cases h6 : dt ≤ 6
  · exact drawCell_int h (by omega)
  have : dt = 7 ∨ dt = 8 ∨ dt = 9 := by omega
  rcases this with rfl | rfl | rfl
  · exact drawCell_f32 h
  · exact drawCell_f64 h
  · exact drawCell_c128 h

/-- A local struct of three cells in block k of W. -/
structure Loc (w W : World) (b k : Nat) (i : Int) (f g : Nat) : Prop where
  c0 : W.cell? ⟨k, 0, none⟩ = some (.int .i64 i)
  c1 : W.cell? ⟨k, 1, none⟩ = some (.float .f64 f)
  c2 : W.cell? ⟨k, 2, none⟩ = some (.float .f64 g)
  fz : ∀ o, W.frozen? ⟨k, o, none⟩ = false
  gt : w.heap.size < k
theorem Loc.next {w W W' : World} {b k : Nat} {i : Int} {f g : Nat} (hb : b < w.heap.size) (h : Loc w W b k i f g) (m : Mut b W W') : Loc w W' b k i f g :=
  ⟨m.box (by have := h.gt; omega) h.c0, m.box (by have := h.gt; omega) h.c1, m.box (by have := h.gt; omega) h.c2, fun o => (m.fz _).trans (h.fz o), h.gt⟩
theorem At.size {w W : World} {b : Nat} {sv : Value} {n : Nat} {z : Int} (h : At w W b sv n z) : w.heap.size < W.heap.size := by
  by_cases e : w.heap.size < W.heap.size
  · exact e
  · have e2 : W.heap[w.heap.size]? = none := by simp; omega
    have := h.z0
    simp [World.cell?, e2] at this
theorem At.alloc {w W : World} {b : Nat} {sv : Value} {n : Nat} {z : Int} (h : At w W b sv n z) (c : Array Value) (t : TypeId) : At w (W.alloc (.cells c t)) b sv n z := by
  have x : Ext W (W.alloc (.cells c t)) := (Ext.refl W).alloc c t
  obtain ⟨a, y, s⟩ := h.src
  exact ⟨x.box h.z0, x.box h.z1, x.box h.z2, fun o => (x.fz _).trans (h.zf o), ⟨a, y, s.keep x⟩, h.mt.trans (x.mut b)⟩
theorem Loc.start {w W : World} {b : Nat} {sv : Value} {n : Nat} {z : Int} (h : At w W b sv n z) (i : Int) (f g : Nat) : Loc w (W.alloc (.cells #[.int .i64 i, .float .f64 f, .float .f64 g] 29)) b W.heap.size i f g :=
  ⟨by simp, by simp, by simp, fun o => ((Ext.refl W).alloc _ _).unfrozen (Nat.le_refl _) o, h.size⟩
theorem At.set {w W : World} {b : Nat} {sv : Value} {n : Nat} {a x z : Int} (h0 : Src w b sv n a x z) (h : At w W b sv n z) {k : Nat} (hk : w.heap.size < k) (o : Nat) (v : Value) : At w (W.setCell ⟨k, o, none⟩ v) b sv n z := by
  obtain ⟨a', x', s⟩ := h.src
  refine ⟨(cell_other _ _ _ _ _ _ (by omega)).trans h.z0, (cell_other _ _ _ _ _ _ (by omega)).trans h.z1, (cell_other _ _ _ _ _ _ (by omega)).trans h.z2, fun q => (World.frozen?_setCell _ _ _ _).trans (h.zf q), ⟨a', x', h0.setNew s (by omega) _ _⟩, h.mt.setNew (by omega) _ _⟩

theorem At.fin' {w W : World} {b : Nat} {sv : Value} {n : Nat} {a x z : Int} (h0 : Src w b sv n a x z) (h : At w W b sv n z) (u0 u1 u2 : Value) :
    (∃ a x, Src ((((W.setCell ⟨w.heap.size, 0, none⟩ u0).setCell ⟨w.heap.size, 1, none⟩ u1).setCell ⟨w.heap.size, 2, none⟩ u2).drew) b sv n a x z) ∧ Mut b w ((((W.setCell ⟨w.heap.size, 0, none⟩ u0).setCell ⟨w.heap.size, 1, none⟩ u1).setCell ⟨w.heap.size, 2, none⟩ u2).drew) := by
  obtain ⟨⟨a, x, s⟩, m⟩ := h.fin h0 u0 u1 u2
  exact ⟨⟨a, x, s.keep ((Ext.refl _).drew)⟩, m.drew⟩

set_option maxHeartbeats 2000000 in
theorem drawAny_any {w : World} {b : Nat} {sv : Value} {n : Nat} {at_ mix size : Int} (h : Src w b sv n at_ mix size) :
    Calls Try.prog 63 #[.pointer (some ⟨b, 0, none⟩)] w fun e w' => ∃ (dt i : Int) (f g : Nat) (at2 mix2 : Int), e = .returned (.tuple #[.int .i64 dt, .agg #[.int .i64 i, .float .f64 f, .float .f64 g]]) ∧ (0 ≤ dt ∧ dt ≤ 10) ∧ CellOk i f g ∧ Src w' b sv n at2 mix2 size ∧ Mut b w w' := by
  have hb := h.lt
  have H0 := hide h
  have A0 := hide (At.start h)
  clear h
  go_enter Try.func63, Try.ntmps63
  go_wp2_with fail
  obtain ⟨ax, xx, sx⟩ := A0.out.src
  refine (drawDType_any sx).mono ?_
  clear sx
  rintro e w1 ⟨dt, at1, mix1, rfl, hd, s1, m1⟩
  have A1 := hide (A0.out.next hb s1 m1)
  have Hd := hide hd
  clear s1 m1 hd
  go_wp2_with fail
  obtain ⟨ax, xx, sx⟩ := A1.out.src
  refine (drawCell_any sx Hd.out).mono ?_
  clear sx
  rintro e w2 ⟨i, f, g, at2, mix2, rfl, hok, s2, m2⟩
  have A2 := hide (A1.out.next hb s2 m2)
  have Hok := hide hok
  clear s2 m2 hok
  have A2' := hide (A2.out.alloc #[.int .i64 i, .float .f64 f, .float .f64 g] 29)
  have L2 := hide (Loc.start A2.out i f g)
  go_wp2_with fail
  obtain ⟨ax, xx, sx⟩ := A2'.out.src
  refine (next_any sx 20).mono ?_
  clear sx
  rintro e w3 ⟨k, at3, mix3, rfl, ⟨p3, q3, _⟩, s3, m3⟩
  have A3 := hide (A2'.out.next hb s3 m3)
  have L3 := hide (L2.out.next hb m3)
  clear s3 m3 q3 A2' L2
  by_cases c0 : k = 0
  · subst c0
    have z0 := A3.out.z0
    have z1 := A3.out.z1
    have z2 := A3.out.z2
    have zf := A3.out.zf
    have l0 := L3.out.c0
    have l1 := L3.out.c1
    have l2 := L3.out.c2
    have lf := L3.out.fz
    have hgt := L3.out.gt
    go_wp2_with fail
    go_region
    all_goals go_wp2
    all_goals obtain ⟨⟨ax, xx, sx⟩, mx⟩ := At.fin' H0.out (At.set H0.out A3.out hgt 0 (.int .i64 (wrap64 (i + 1)))) (.int .i64 (wrap64 (i + 1))) (.float .f64 f) (.float .f64 g)
    all_goals exact bodyPost_ret (v := .tuple #[.int .i64 dt, .agg #[.int .i64 (wrap64 (i + 1)), .float .f64 f, .float .f64 g]]) (by simp [results, Try.results63, go_sem, z0, z1, z2, l0, l1, l2, hgt]) rfl ⟨dt, (wrap64 (i + 1)), f, g, ax, xx, rfl, ⟨by have := Hd.out; omega, by have := Hd.out; omega⟩, ⟨wrap_I64 _, Hok.out.2.1, Hok.out.2.2⟩, sx, mx⟩
  by_cases c1 : k = 1
  · subst c1
    go_wp2_with fail
    obtain ⟨ax, xx, sx⟩ := A3.out.src
    refine (drawFloat_any sx).mono ?_
    clear sx
    rintro e w4 ⟨r, at4, mix4, rfl, br, s4, m4⟩
    have A4 := hide (A3.out.next hb s4 m4)
    have L4 := hide (L3.out.next hb m4)
    clear s4 m4
    have z0 := A4.out.z0
    have z1 := A4.out.z1
    have z2 := A4.out.z2
    have zf := A4.out.zf
    have l0 := L4.out.c0
    have l1 := L4.out.c1
    have l2 := L4.out.c2
    have lf := L4.out.fz
    have hgt := L4.out.gt
    go_wp2_with fail
    go_region
    all_goals go_wp2
    all_goals obtain ⟨⟨ax, xx, sx⟩, mx⟩ := At.fin' H0.out (At.set H0.out A4.out hgt 1 (.float .f64 r)) (.int .i64 i) (.float .f64 r) (.float .f64 g)
    all_goals exact bodyPost_ret (v := .tuple #[.int .i64 dt, .agg #[.int .i64 i, .float .f64 r, .float .f64 g]]) (by simp [results, Try.results63, go_sem, z0, z1, z2, l0, l1, l2, hgt]) rfl ⟨dt, i, r, g, ax, xx, rfl, ⟨by have := Hd.out; omega, by have := Hd.out; omega⟩, ⟨Hok.out.1, br, Hok.out.2.2⟩, sx, mx⟩
  by_cases c2 : k = 2
  · subst c2
    go_wp2_with fail
    obtain ⟨ax, xx, sx⟩ := A3.out.src
    refine (drawFloat_any sx).mono ?_
    clear sx
    rintro e w4 ⟨r, at4, mix4, rfl, br, s4, m4⟩
    have A4 := hide (A3.out.next hb s4 m4)
    have L4 := hide (L3.out.next hb m4)
    clear s4 m4
    have z0 := A4.out.z0
    have z1 := A4.out.z1
    have z2 := A4.out.z2
    have zf := A4.out.zf
    have l0 := L4.out.c0
    have l1 := L4.out.c1
    have l2 := L4.out.c2
    have lf := L4.out.fz
    have hgt := L4.out.gt
    go_wp2_with fail
    go_region
    all_goals go_wp2
    all_goals obtain ⟨⟨ax, xx, sx⟩, mx⟩ := At.fin' H0.out (At.set H0.out A4.out hgt 2 (.float .f64 r)) (.int .i64 i) (.float .f64 f) (.float .f64 r)
    all_goals exact bodyPost_ret (v := .tuple #[.int .i64 dt, .agg #[.int .i64 i, .float .f64 f, .float .f64 r]]) (by simp [results, Try.results63, go_sem, z0, z1, z2, l0, l1, l2, hgt]) rfl ⟨dt, i, f, r, ax, xx, rfl, ⟨by have := Hd.out; omega, by have := Hd.out; omega⟩, ⟨Hok.out.1, Hok.out.2.1, br⟩, sx, mx⟩
  by_cases c3 : k = 3
  · subst c3
    go_wp2_with fail
    obtain ⟨ax, xx, sx⟩ := A3.out.src
    refine (next_any sx 2).mono ?_
    clear sx
    rintro e w4 ⟨r, at4, mix4, rfl, ⟨p4, q4', _⟩, s4, m4⟩
    have q4 := q4' (by decide)
    have A4 := hide (A3.out.next hb s4 m4)
    have L4 := hide (L3.out.next hb m4)
    clear s4 m4 q4'
    have z0 := A4.out.z0
    have z1 := A4.out.z1
    have z2 := A4.out.z2
    have zf := A4.out.zf
    have l0 := L4.out.c0
    have l1 := L4.out.c1
    have l2 := L4.out.c2
    go_wp2_with fail
    go_region
    all_goals go_wp2
    all_goals obtain ⟨⟨ax, xx, sx⟩, mx⟩ := At.fin' H0.out A4.out (.int .i64 i) (.float .f64 f) (.float .f64 g)
    all_goals exact bodyPost_ret (v := .tuple #[.int .i64 (r * 10), .agg #[.int .i64 i, .float .f64 f, .float .f64 g]]) (by simp [results, Try.results63, go_sem, z0, z1, z2]) rfl ⟨(r * 10), i, f, g, ax, xx, rfl, ⟨by omega, by omega⟩, Hok.out, sx, mx⟩
  · have d0 : (k == 0) = false := by simpa using c0
    have d1 : (k == 1) = false := by simpa using c1
    have d2 : (k == 2) = false := by simpa using c2
    have d3 : (k == 3) = false := by simpa using c3
    have z0 := A3.out.z0
    have z1 := A3.out.z1
    have z2 := A3.out.z2
    have zf := A3.out.zf
    have l0 := L3.out.c0
    have l1 := L3.out.c1
    have l2 := L3.out.c2
    go_wp2_with fail
    go_region
    all_goals go_wp2
    all_goals obtain ⟨⟨ax, xx, sx⟩, mx⟩ := At.fin' H0.out A3.out (.int .i64 i) (.float .f64 f) (.float .f64 g)
    all_goals exact bodyPost_ret (v := .tuple #[.int .i64 dt, .agg #[.int .i64 i, .float .f64 f, .float .f64 g]]) (by simp [results, Try.results63, go_sem, z0, z1, z2]) rfl ⟨dt, i, f, g, ax, xx, rfl, ⟨by have := Hd.out; omega, by have := Hd.out; omega⟩, Hok.out, sx, mx⟩

end Go.Proofs.Ythaajmkfeniofaa
