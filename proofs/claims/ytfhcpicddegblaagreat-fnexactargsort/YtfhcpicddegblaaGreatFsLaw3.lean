import Derived.Test.YtfhcpicddegblaaGreatM8
import Derived.Test.YtfhcpicddegblaaGreatM12
import Derived.Test.YtfhcpicddegblaaGreatFsAy2
import Derived.Test.YtfhcpicddegblaaGreatM1
import Derived.Test.YtfhcpicddegblaaGreatM7
import Derived.Test.YtfhcpicddegblaaGreatM5
namespace Go.Proofs.YtfhcpicddegblaaGreat
open List renaming setIfInBounds_toArray → sT, set_cons_zero → sZ, set_cons_succ → sS
open Go.Value renaming int → O, slice → σ, pointer → π, agg → γ
open Go.IntKind renaming i64 → ι
open Go.Obj renaming cells → χ
open Go.Act renaming put → aP
set_option maxRecDepth 100000
set_option maxHeartbeats 8000000
open Go.ChangeShapes Go.RowKit FL
set_option linter.unusedSimpArgs false
set_option linter.unusedVariables false
structure LXt (w : World) (hv : Value) (A1 A2 : List Value) (W : World) : Prop where
 h : W.cell? ⟨w.heap.size, 0, none⟩ = some hv
 a : AtB W (w.heap.size + 1) A1
 o : AtB W (w.heap.size + 1 + 1) A2
 bl : Bel w W
theorem LXt.keep {w : World} {hv : Value} {A1 A2 : List Value} {W W' : World} (h : LXt w hv A1 A2 W) (x : Bel W W') : LXt w hv A1 A2 W' :=
 ⟨Bel.box x h.h, h.a.keep x, h.o.keep x, Bel.tr h.bl x⟩
theorem LXt.start (w : World) (hv : Value) (A1 A2 : List Value) : LXt w hv A1 A2 (((w.alloc (χ #[hv] 24)).alloc (.cells A1.toArray 29)).alloc (.cells A2.toArray 29)) := by
 have e0 := (((Ext.refl w).alloc #[hv] 24).alloc A1.toArray 29).alloc A2.toArray 29
 have e1 := (((Ext.refl (w.alloc (χ #[hv] 24)))).alloc A1.toArray 29).alloc A2.toArray 29
 have e2 := ((Ext.refl ((w.alloc (χ #[hv] 24)).alloc (.cells A1.toArray 29)))).alloc A2.toArray 29
 exact ⟨e1.box (zd w #[hv] 24 _ rfl 0), fun j x hx => e2.box ((zd _ A1.toArray 29 (w.heap.size + 1) (by simp) j).trans (by simpa using hx)), fun j x hx => (zd _ A2.toArray 29 (w.heap.size + 1 + 1) (by simp) j).trans (by simpa using hx), e0.bl⟩
theorem zf27 (w : World) (v x1 y1 x2 y2 : Value) (ss : List St) (a o : Ar) (ax : Int) (hX : SV w v ss) (hb : SB ss) (hg : SG ss) (i1 : Ints w x1 a.xs) (j1 : Ints w y1 a.sv) (i2 : Ints w x2 o.xs) (j2 : Ints w y2 o.sv) (lx1 : a.xs.length ≤ 9223372036854775807) (ls1 : a.sv.length ≤ 9223372036854775807) (lx2 : o.xs.length ≤ 9223372036854775807) (ls2 : o.sv.length ≤ 9223372036854775807) :
  Calls Tryz.prog 5 #[γ #[v], γ #[O ι a.st, x1, y1, O ι a.off], O ι ax, γ #[O ι o.st, x2, y2, O ι o.off]] w fun e w' => LawOk w e w' := by
 obtain ⟨sa, cap, rfl, hx⟩ := hX
 have HV : Hid (SV w (σ sa ss.length cap) ss) := ⟨sa, cap, rfl, hx⟩
 clear hx
 obtain ⟨p1, c1, rfl, h1⟩ := i1
 have I1 : Hid (Ints w (σ p1 a.xs.length c1) a.xs) := ⟨p1, c1, rfl, h1⟩
 clear h1
 obtain ⟨q1, d1, rfl, h1⟩ := j1
 have J1 : Hid (Ints w (σ q1 a.sv.length d1) a.sv) := ⟨q1, d1, rfl, h1⟩
 clear h1
 obtain ⟨p2, c2, rfl, h1⟩ := i2
 have I2 : Hid (Ints w (σ p2 o.xs.length c2) o.xs) := ⟨p2, c2, rfl, h1⟩
 clear h1
 obtain ⟨q2, d2, rfl, h1⟩ := j2
 have J2 : Hid (Ints w (σ q2 o.sv.length d2) o.sv) := ⟨q2, d2, rfl, h1⟩
 clear h1
 have HX0 := hide (LXt.start w (σ sa ss.length cap) [O ι a.st, σ p1 a.xs.length c1, σ q1 a.sv.length d1, O ι a.off] [O ι o.st, σ p2 o.xs.length c2, σ q2 o.sv.length d2, O ι o.off])
 have HS := hide (ze16 (HV.out.keep HX0.out.bl) hb 1048576 (by omega))
 have c0 := HX0.out.h
 have a0 := HX0.out.a 0 _ rfl
 have a1 := HX0.out.a 1 _ rfl
 have a2 := HX0.out.a 2 _ rfl
 have a3 := HX0.out.a 3 _ rfl
 have o0 := HX0.out.o 0 _ rfl
 have o1 := HX0.out.o 1 _ rfl
 have o2 := HX0.out.o 2 _ rfl
 have o3 := HX0.out.o 3 _ rfl
 go_enter Tryz.func5, Tryz.ntmps5
 go_wp2_with fail
 refine HS.out.mono ?_
 rintro e w1 ⟨⟨r0, rfl, hr0⟩, x1⟩
 have HX1 := hide (HX0.out.keep x1.bl)
 clear x1 HS HX0 c0 a0 a1 a2 a3 o0 o1 o2 o3
 have c0 := HX1.out.h
 have a0 := HX1.out.a 0 _ rfl
 have a1 := HX1.out.a 1 _ rfl
 have a2 := HX1.out.a 2 _ rfl
 have a3 := HX1.out.a 3 _ rfl
 have o0 := HX1.out.o 0 _ rfl
 have o1 := HX1.out.o 1 _ rfl
 have o2 := HX1.out.o 2 _ rfl
 have o3 := HX1.out.o 3 _ rfl
 rcases hr0 with hr0 | ⟨h1, h2, hl⟩
 ·go_wp2
  go_ret
  exact ⟨rfl, HX1.out.bl⟩
 have hr : ¬ r0 < 0 := by omega
 have HL := hide hl
 have HG := hide hg
 have hb0 : r0 ≤ 1048576 := by omega
 clear hl hg hb h2
 go_wp2_with fail
 refine (za15 a.st p1 q1 a.xs.length c1 a.sv.length d1 a.off r0 ⟨by omega, by omega⟩ lx1 ls1 _).mono ?_
 rintro e w2 ⟨⟨r1, rfl, hr1⟩, x2⟩
 have HX2 := hide (HX1.out.keep x2.bl)
 clear x2 HX1 c0 a0 a1 a2 a3 o0 o1 o2 o3 lx1 ls1
 have c0 := HX2.out.h
 have a0 := HX2.out.a 0 _ rfl
 have a1 := HX2.out.a 1 _ rfl
 have a2 := HX2.out.a 2 _ rfl
 have a3 := HX2.out.a 3 _ rfl
 have o0 := HX2.out.o 0 _ rfl
 have o1 := HX2.out.o 1 _ rfl
 have o2 := HX2.out.o 2 _ rfl
 have o3 := HX2.out.o 3 _ rfl
 rcases hr1 with hr1 | ⟨h3, h4, lx, ls⟩
 ·go_wp2
  go_ret
  exact ⟨rfl, HX2.out.bl⟩
 have hr1 : ¬ r1 < 0 := by omega
 have hb1 : r1 ≤ 1048576 := by omega
 have L1 : Hid (a.Len) := ⟨lx, ls⟩
 clear h4 lx ls hb0
 go_wp2_with fail
 refine (za15 o.st p2 q2 o.xs.length c2 o.sv.length d2 o.off r1 ⟨by omega, by omega⟩ lx2 ls2 _).mono ?_
 rintro e w3 ⟨⟨r2, rfl, hr2⟩, x3⟩
 have HX3 := hide (HX2.out.keep x3.bl)
 clear x3 HX2 c0 a0 a1 a2 a3 o0 o1 o2 o3 lx2 ls2
 have c0 := HX3.out.h
 have a0 := HX3.out.a 0 _ rfl
 have a1 := HX3.out.a 1 _ rfl
 have a2 := HX3.out.a 2 _ rfl
 have a3 := HX3.out.a 3 _ rfl
 have o0 := HX3.out.o 0 _ rfl
 have o1 := HX3.out.o 1 _ rfl
 have o2 := HX3.out.o 2 _ rfl
 have o3 := HX3.out.o 3 _ rfl
 rcases hr2 with hr2 | ⟨h4, h4, lx, ls⟩
 ·go_wp2
  go_ret
  exact ⟨rfl, HX3.out.bl⟩
 have hr2 : ¬ r2 < 0 := by omega
 have hb2 : r2 ≤ 1048576 := by omega
 have L2 : Hid (o.Len) := ⟨lx, ls⟩
 clear h4 lx ls hb1
 go_wp2_with fail
 have HS14 : Hid (∀ W, Bel w3 W → (fun w' : World => w'.cell? ⟨w.heap.size, 0, none⟩ = some (σ sa ss.length cap) ∧ w'.cell? ⟨w.heap.size + 1, 0, none⟩ = some (O ι a.st) ∧ w'.cell? ⟨w.heap.size + 1, 1, none⟩ = some (σ p1 a.xs.length c1) ∧ w'.cell? ⟨w.heap.size + 1, 2, none⟩ = some (σ q1 a.sv.length d1) ∧ w'.cell? ⟨w.heap.size + 1, 3, none⟩ = some (O ι a.off) ∧ w'.cell? ⟨w.heap.size + 1 + 1, 0, none⟩ = some (O ι o.st) ∧ w'.cell? ⟨w.heap.size + 1 + 1, 1, none⟩ = some (σ p2 o.xs.length c2) ∧ w'.cell? ⟨w.heap.size + 1 + 1, 2, none⟩ = some (σ q2 o.sv.length d2) ∧ w'.cell? ⟨w.heap.size + 1 + 1, 3, none⟩ = some (O ι o.off)) W) := fun W x => ⟨Bel.box x c0, Bel.box x a0, Bel.box x a1, Bel.box x a2, Bel.box x a3, Bel.box x o0, Bel.box x o1, Bel.box x o2, Bel.box x o3⟩
 have SA := hide (HS14.out w3.drew (Ext.refl w3).drew.bl)
 have XW : Hid (Bel w3 w3.drew) := (Ext.refl w3).drew.bl
 clear c0 a0 a1 a2 a3 o0 o1 o2 o3
 refine zq (fun ac a' w' => ∃ (y1 y2 y3 y4 : Value) (B : Nat) (cc : Int) (su : Option Addr) (cu : Nat) (ts : List St), a' = (((((((((ac.put (some 34) (γ #[σ sa ss.length cap])).put (some 36) (γ #[O ι a.st, σ p1 a.xs.length c1, σ q1 a.sv.length d1, O ι a.off])).put (some 38) (O ι ax)).put (some 39) (γ #[O ι o.st, σ p2 o.xs.length c2, σ q2 o.sv.length d2, O ι o.off])).put (some 35) (y1)).put (some 37) (y2)).put (some 40) (y3)).put (some 41) (y4)).put (some 10) (π (some ⟨B, 0, none⟩))) ∧ AtB w' B [O ι cc, σ su ts.length cu] ∧ ArgOk ss a ax o cc ts ∧ SV w' (σ su ts.length cu) ts ∧ Bel w3 w' ∧ B < w'.heap.size) (S := (fun w' : World => w'.cell? ⟨w.heap.size, 0, none⟩ = some (σ sa ss.length cap) ∧ w'.cell? ⟨w.heap.size + 1, 0, none⟩ = some (O ι a.st) ∧ w'.cell? ⟨w.heap.size + 1, 1, none⟩ = some (σ p1 a.xs.length c1) ∧ w'.cell? ⟨w.heap.size + 1, 2, none⟩ = some (σ q1 a.sv.length d1) ∧ w'.cell? ⟨w.heap.size + 1, 3, none⟩ = some (O ι a.off) ∧ w'.cell? ⟨w.heap.size + 1 + 1, 0, none⟩ = some (O ι o.st) ∧ w'.cell? ⟨w.heap.size + 1 + 1, 1, none⟩ = some (σ p2 o.xs.length c2) ∧ w'.cell? ⟨w.heap.size + 1 + 1, 2, none⟩ = some (σ q2 o.sv.length d2) ∧ w'.cell? ⟨w.heap.size + 1 + 1, 3, none⟩ = some (O ι o.off))) (late := []) (by kernel_rfl) ?_ ?_
 rotate_left
 ·refine zl27 0 34 (γ #[σ sa ss.length cap]) rfl (.inl ⟨by kernel_rfl, ?_⟩) SA.out ?_
  ·rintro w' ⟨z0, z1, z2, z3, z4, z5, z6, z7, z8⟩
   go_simp
  simp only [aP, sT, sZ, sS]
  refine zl27 2 36 (γ #[O ι a.st, σ p1 a.xs.length c1, σ q1 a.sv.length d1, O ι a.off]) rfl (.inl ⟨by kernel_rfl, ?_⟩) SA.out ?_
  ·rintro w' ⟨z0, z1, z2, z3, z4, z5, z6, z7, z8⟩
   go_simp
  simp only [aP, sT, sZ, sS]
  refine zl27 4 38 (O ι ax) rfl (.inl ⟨by kernel_rfl, ?_⟩) SA.out ?_
  ·rintro w' ⟨z0, z1, z2, z3, z4, z5, z6, z7, z8⟩
   go_simp
  simp only [aP, sT, sZ, sS]
  refine zl27 5 39 (γ #[O ι o.st, σ p2 o.xs.length c2, σ q2 o.sv.length d2, O ι o.off]) rfl (.inl ⟨by kernel_rfl, ?_⟩) SA.out ?_
  ·rintro w' ⟨z0, z1, z2, z3, z4, z5, z6, z7, z8⟩
   go_simp
  simp only [aP, sT, sZ, sS]
  clear SA
  generalize w3.drew = t0 at XW ⊢
  refine zk1 (rs := [1, 8]) (by kernel_rfl) (by simp) (fun i hi => ?_)
  simp only [List.mem_cons, List.not_mem_nil, or_false] at hi
  rcases hi with rfl | rfl
  rotate_left
  ·refine ⟨_, rfl, fun K hK => ?_⟩
   go_simp
   refine hK.out _ _ (fun _ => HS14.out _ (Bel.tr XW.out ((Ext.refl t0).alloc _ _).bl)) ?_
   clear hK K
   try simp only [aP, sT, sZ, sS]
   have xx : Bel t0 (t0.alloc (χ #[O ι 0, σ none 0 0] 36)) := ((Ext.refl t0).alloc _ _).bl
   have AB : Hid (AtB (t0.alloc (χ #[O ι 0, σ none 0 0] 36)) t0.heap.size [O ι 0, σ none 0 0]) := fun j x hx => (zd t0 _ 36 _ rfl j).trans (by simpa using hx)
   have FB : Hid (∀ j, (t0.alloc (χ #[O ι 0, σ none 0 0] 36)).frozen? ⟨t0.heap.size, j, none⟩ = false) := fun j => ((Ext.refl t0).alloc _ _).unfrozen (Nat.le_refl _) j
   have HB : Hid (w3.heap.size ≤ t0.heap.size ∧ t0.heap.size < (t0.alloc (χ #[O ι 0, σ none 0 0] 36)).heap.size) := ⟨XW.out.size, by simp⟩
   replace XW := hide (Bel.tr XW.out xx)
   clear xx
   generalize (t0.alloc (χ #[O ι 0, σ none 0 0] 36)) = t0s at AB FB HB XW  ⊢
   generalize t0.heap.size = B at AB FB HB ⊢
   refine ze (i := 1) (by kernel_rfl) rfl (fun K hK => ?_)
   go_simp
   refine (zj2 (HV.out.keep (Bel.tr HX3.out.bl XW.out)) HL.out).mono ?_
   rintro e t1s ⟨g, rfl, hgl, rp, xx⟩
   replace XW := hide (Bel.tr XW.out xx.bl)
   replace FB : Hid (∀ j, _ = false) := fun j => (Below.frozen xx.bl (p := ⟨B, j, none⟩) HB.out.2).trans (FB.out j)
   replace AB := hide (AB.out.keep xx.bl)
   replace HB := hide (And.intro HB.out.1 (Nat.lt_of_lt_of_le HB.out.2 (Below.size xx.bl)))
   have U1 : Hid (SV t1s (σ (some ⟨g, 0, none⟩) ss.length ss.length) ss) := rp.sv rfl
   clear hgl rp xx
   refine hK.out _ _ (fun _ => HS14.out _ XW.out) ?_
   clear hK K
   try simp only [aP, sT, sZ, sS]
   refine ze (i := 3) (by kernel_rfl) rfl (fun K hK => ?_)
   go_simp
   refine (zr a.st (zk I1.out (Bel.tr HX3.out.bl XW.out)) (zk J1.out (Bel.tr HX3.out.bl XW.out)) a.off L1.out.1 L1.out.2).mono ?_
   rintro e t2s ⟨b1, e1, rfl, hg1, hg2, hg3, rx, rs, xx⟩
   replace XW := hide (Bel.tr XW.out xx.bl)
   replace U1 := hide (U1.out.keep xx.bl)
   replace FB : Hid (∀ j, _ = false) := fun j => (Below.frozen xx.bl (p := ⟨B, j, none⟩) HB.out.2).trans (FB.out j)
   replace AB := hide (AB.out.keep xx.bl)
   replace HB := hide (And.intro HB.out.1 (Nat.lt_of_lt_of_le HB.out.2 (Below.size xx.bl)))
   have U2 : Hid (AV t2s (γ #[O ι a.st, σ (some ⟨b1, 0, none⟩) a.xs.length a.xs.length, σ (some ⟨e1, 0, none⟩) a.sv.length a.sv.length, O ι a.off]) a) := ⟨_, _, _, _, rfl, rx.ints rfl, rs.ints rfl, L1.out⟩
   clear hg1 hg2 hg3 rx rs xx
   refine hK.out _ _ (fun _ => HS14.out _ XW.out) ?_
   clear hK K
   try simp only [aP, sT, sZ, sS]
   refine ze (i := 6) (by kernel_rfl) rfl (fun K hK => ?_)
   go_simp
   refine (zr o.st (zk I2.out (Bel.tr HX3.out.bl XW.out)) (zk J2.out (Bel.tr HX3.out.bl XW.out)) o.off L2.out.1 L2.out.2).mono ?_
   rintro e t3s ⟨b2, e2, rfl, hg1, hg2, hg3, rx, rs, xx⟩
   replace XW := hide (Bel.tr XW.out xx.bl)
   replace U1 := hide (U1.out.keep xx.bl)
   replace U2 := hide (U2.out.keep xx.bl)
   replace FB : Hid (∀ j, _ = false) := fun j => (Below.frozen xx.bl (p := ⟨B, j, none⟩) HB.out.2).trans (FB.out j)
   replace AB := hide (AB.out.keep xx.bl)
   replace HB := hide (And.intro HB.out.1 (Nat.lt_of_lt_of_le HB.out.2 (Below.size xx.bl)))
   have U3 : Hid (AV t3s (γ #[O ι o.st, σ (some ⟨b2, 0, none⟩) o.xs.length o.xs.length, σ (some ⟨e2, 0, none⟩) o.sv.length o.sv.length, O ι o.off]) o) := ⟨_, _, _, _, rfl, rx.ints rfl, rs.ints rfl, L2.out⟩
   clear hg1 hg2 hg3 rx rs xx
   refine hK.out _ _ (fun _ => HS14.out _ XW.out) ?_
   clear hK K
   try simp only [aP, sT, sZ, sS]
   refine ze (i := 7) (by kernel_rfl) rfl (fun K hK => ?_)
   go_simp
   refine (zi4 ax U1.out HG.out HL.out U2.out U3.out).mono ?_
   intro e t4s hans
   obtain ⟨cc, u, ts, rfl, hok, hms, xx⟩ := hans
   obtain ⟨su, cu, rfl⟩ := hms.form
   have HOK := hide hok
   have MS := hide hms
   have hBW := HB.out.2
   replace XW := hide (Bel.tr XW.out xx)
   replace FB : Hid (∀ j, _ = false) := fun j => (Below.frozen xx (p := ⟨B, j, none⟩) HB.out.2).trans (FB.out j)
   replace AB := hide (AB.out.keep xx)
   replace HB := hide (And.intro HB.out.1 (Nat.lt_of_lt_of_le HB.out.2 (Below.size xx)))
   clear hok hms xx U1 U2 U3
   refine hK.out _ _ (fun _ => HS14.out _ XW.out) ?_
   clear hK K
   try simp only [aP, sT, sZ, sS]
   have q0 := AB.out 0 _ rfl
   have q1 := AB.out 1 _ rfl
   have f0 := FB.out 0
   have f1 := FB.out 1
   refine ze (i := 9) (by kernel_rfl) rfl (fun K hK => ?_)
   go_simp
   refine hK.out _ _ (fun _ => HS14.out _ ((XW.out.setCell (p := ⟨B, 0, none⟩) HB.out.1 _).setCell (p := ⟨B, 1, none⟩) HB.out.1 _)) ?_
   clear hK K
   try simp only [aP, sT, sZ, sS]
   refine zg (by kernel_rfl) ?_ _
   refine ⟨rfl, γ #[σ (some ⟨g, 0, none⟩) ss.length ss.length], γ #[O ι a.st, σ (some ⟨b1, 0, none⟩) a.xs.length a.xs.length, σ (some ⟨e1, 0, none⟩) a.sv.length a.sv.length, O ι a.off], γ #[O ι o.st, σ (some ⟨b2, 0, none⟩) o.xs.length o.xs.length, σ (some ⟨e2, 0, none⟩) o.sv.length o.sv.length, O ι o.off], γ #[O ι cc, σ su ts.length cu], B, cc, su, cu, ts, by kernel_rfl, AB.out.two _ _, HOK.out, ?_, (XW.out.setCell (p := ⟨B, 0, none⟩) HB.out.1 _).setCell (p := ⟨B, 1, none⟩) HB.out.1 _, by simp [World.setCell]; exact HB.out.2⟩
   exact ((MS.out.far hBW _).far hBW _).sv
  refine ⟨_, rfl, fun K hK => ?_⟩
  go_simp
  refine (zj2 (HV.out.keep (Bel.tr HX3.out.bl XW.out)) HL.out).mono ?_
  rintro e t1 ⟨g, rfl, hgl, rp, xx⟩
  replace XW := hide (Bel.tr XW.out xx.bl)
  have U1 : Hid (SV t1 (σ (some ⟨g, 0, none⟩) ss.length ss.length) ss) := rp.sv rfl
  clear hgl rp xx
  refine hK.out _ _ (fun _ => HS14.out _ XW.out) ?_
  clear hK K
  try simp only [aP, sT, sZ, sS]
  refine zk1 (rs := [3, 8]) (by kernel_rfl) (by simp) (fun i hi => ?_)
  simp only [List.mem_cons, List.not_mem_nil, or_false] at hi
  rcases hi with rfl | rfl
  rotate_left
  ·refine ⟨_, rfl, fun K hK => ?_⟩
   go_simp
   refine hK.out _ _ (fun _ => HS14.out _ (Bel.tr XW.out ((Ext.refl t1).alloc _ _).bl)) ?_
   clear hK K
   try simp only [aP, sT, sZ, sS]
   have xx : Bel t1 (t1.alloc (χ #[O ι 0, σ none 0 0] 36)) := ((Ext.refl t1).alloc _ _).bl
   have AB : Hid (AtB (t1.alloc (χ #[O ι 0, σ none 0 0] 36)) t1.heap.size [O ι 0, σ none 0 0]) := fun j x hx => (zd t1 _ 36 _ rfl j).trans (by simpa using hx)
   have FB : Hid (∀ j, (t1.alloc (χ #[O ι 0, σ none 0 0] 36)).frozen? ⟨t1.heap.size, j, none⟩ = false) := fun j => ((Ext.refl t1).alloc _ _).unfrozen (Nat.le_refl _) j
   have HB : Hid (w3.heap.size ≤ t1.heap.size ∧ t1.heap.size < (t1.alloc (χ #[O ι 0, σ none 0 0] 36)).heap.size) := ⟨XW.out.size, by simp⟩
   replace XW := hide (Bel.tr XW.out xx)
   replace U1 := hide (U1.out.keep xx)
   clear xx
   generalize (t1.alloc (χ #[O ι 0, σ none 0 0] 36)) = t1s at AB FB HB XW U1 ⊢
   generalize t1.heap.size = B at AB FB HB ⊢
   refine ze (i := 3) (by kernel_rfl) rfl (fun K hK => ?_)
   go_simp
   refine (zr a.st (zk I1.out (Bel.tr HX3.out.bl XW.out)) (zk J1.out (Bel.tr HX3.out.bl XW.out)) a.off L1.out.1 L1.out.2).mono ?_
   rintro e t2s ⟨b1, e1, rfl, hg1, hg2, hg3, rx, rs, xx⟩
   replace XW := hide (Bel.tr XW.out xx.bl)
   replace U1 := hide (U1.out.keep xx.bl)
   replace FB : Hid (∀ j, _ = false) := fun j => (Below.frozen xx.bl (p := ⟨B, j, none⟩) HB.out.2).trans (FB.out j)
   replace AB := hide (AB.out.keep xx.bl)
   replace HB := hide (And.intro HB.out.1 (Nat.lt_of_lt_of_le HB.out.2 (Below.size xx.bl)))
   have U2 : Hid (AV t2s (γ #[O ι a.st, σ (some ⟨b1, 0, none⟩) a.xs.length a.xs.length, σ (some ⟨e1, 0, none⟩) a.sv.length a.sv.length, O ι a.off]) a) := ⟨_, _, _, _, rfl, rx.ints rfl, rs.ints rfl, L1.out⟩
   clear hg1 hg2 hg3 rx rs xx
   refine hK.out _ _ (fun _ => HS14.out _ XW.out) ?_
   clear hK K
   try simp only [aP, sT, sZ, sS]
   refine ze (i := 6) (by kernel_rfl) rfl (fun K hK => ?_)
   go_simp
   refine (zr o.st (zk I2.out (Bel.tr HX3.out.bl XW.out)) (zk J2.out (Bel.tr HX3.out.bl XW.out)) o.off L2.out.1 L2.out.2).mono ?_
   rintro e t3s ⟨b2, e2, rfl, hg1, hg2, hg3, rx, rs, xx⟩
   replace XW := hide (Bel.tr XW.out xx.bl)
   replace U1 := hide (U1.out.keep xx.bl)
   replace U2 := hide (U2.out.keep xx.bl)
   replace FB : Hid (∀ j, _ = false) := fun j => (Below.frozen xx.bl (p := ⟨B, j, none⟩) HB.out.2).trans (FB.out j)
   replace AB := hide (AB.out.keep xx.bl)
   replace HB := hide (And.intro HB.out.1 (Nat.lt_of_lt_of_le HB.out.2 (Below.size xx.bl)))
   have U3 : Hid (AV t3s (γ #[O ι o.st, σ (some ⟨b2, 0, none⟩) o.xs.length o.xs.length, σ (some ⟨e2, 0, none⟩) o.sv.length o.sv.length, O ι o.off]) o) := ⟨_, _, _, _, rfl, rx.ints rfl, rs.ints rfl, L2.out⟩
   clear hg1 hg2 hg3 rx rs xx
   refine hK.out _ _ (fun _ => HS14.out _ XW.out) ?_
   clear hK K
   try simp only [aP, sT, sZ, sS]
   refine ze (i := 7) (by kernel_rfl) rfl (fun K hK => ?_)
   go_simp
   refine (zi4 ax U1.out HG.out HL.out U2.out U3.out).mono ?_
   intro e t4s hans
   obtain ⟨cc, u, ts, rfl, hok, hms, xx⟩ := hans
   obtain ⟨su, cu, rfl⟩ := hms.form
   have HOK := hide hok
   have MS := hide hms
   have hBW := HB.out.2
   replace XW := hide (Bel.tr XW.out xx)
   replace FB : Hid (∀ j, _ = false) := fun j => (Below.frozen xx (p := ⟨B, j, none⟩) HB.out.2).trans (FB.out j)
   replace AB := hide (AB.out.keep xx)
   replace HB := hide (And.intro HB.out.1 (Nat.lt_of_lt_of_le HB.out.2 (Below.size xx)))
   clear hok hms xx U1 U2 U3
   refine hK.out _ _ (fun _ => HS14.out _ XW.out) ?_
   clear hK K
   try simp only [aP, sT, sZ, sS]
   have q0 := AB.out 0 _ rfl
   have q1 := AB.out 1 _ rfl
   have f0 := FB.out 0
   have f1 := FB.out 1
   refine ze (i := 9) (by kernel_rfl) rfl (fun K hK => ?_)
   go_simp
   refine hK.out _ _ (fun _ => HS14.out _ ((XW.out.setCell (p := ⟨B, 0, none⟩) HB.out.1 _).setCell (p := ⟨B, 1, none⟩) HB.out.1 _)) ?_
   clear hK K
   try simp only [aP, sT, sZ, sS]
   refine zg (by kernel_rfl) ?_ _
   refine ⟨rfl, γ #[σ (some ⟨g, 0, none⟩) ss.length ss.length], γ #[O ι a.st, σ (some ⟨b1, 0, none⟩) a.xs.length a.xs.length, σ (some ⟨e1, 0, none⟩) a.sv.length a.sv.length, O ι a.off], γ #[O ι o.st, σ (some ⟨b2, 0, none⟩) o.xs.length o.xs.length, σ (some ⟨e2, 0, none⟩) o.sv.length o.sv.length, O ι o.off], γ #[O ι cc, σ su ts.length cu], B, cc, su, cu, ts, by kernel_rfl, AB.out.two _ _, HOK.out, ?_, (XW.out.setCell (p := ⟨B, 0, none⟩) HB.out.1 _).setCell (p := ⟨B, 1, none⟩) HB.out.1 _, by simp [World.setCell]; exact HB.out.2⟩
   exact ((MS.out.far hBW _).far hBW _).sv
  refine ⟨_, rfl, fun K hK => ?_⟩
  go_simp
  refine (zr a.st (zk I1.out (Bel.tr HX3.out.bl XW.out)) (zk J1.out (Bel.tr HX3.out.bl XW.out)) a.off L1.out.1 L1.out.2).mono ?_
  rintro e t2 ⟨b1, e1, rfl, hg1, hg2, hg3, rx, rs, xx⟩
  replace XW := hide (Bel.tr XW.out xx.bl)
  replace U1 := hide (U1.out.keep xx.bl)
  have U2 : Hid (AV t2 (γ #[O ι a.st, σ (some ⟨b1, 0, none⟩) a.xs.length a.xs.length, σ (some ⟨e1, 0, none⟩) a.sv.length a.sv.length, O ι a.off]) a) := ⟨_, _, _, _, rfl, rx.ints rfl, rs.ints rfl, L1.out⟩
  clear hg1 hg2 hg3 rx rs xx
  refine hK.out _ _ (fun _ => HS14.out _ XW.out) ?_
  clear hK K
  try simp only [aP, sT, sZ, sS]
  refine zk1 (rs := [6, 8]) (by kernel_rfl) (by simp) (fun i hi => ?_)
  simp only [List.mem_cons, List.not_mem_nil, or_false] at hi
  rcases hi with rfl | rfl
  rotate_left
  ·refine ⟨_, rfl, fun K hK => ?_⟩
   go_simp
   refine hK.out _ _ (fun _ => HS14.out _ (Bel.tr XW.out ((Ext.refl t2).alloc _ _).bl)) ?_
   clear hK K
   try simp only [aP, sT, sZ, sS]
   have xx : Bel t2 (t2.alloc (χ #[O ι 0, σ none 0 0] 36)) := ((Ext.refl t2).alloc _ _).bl
   have AB : Hid (AtB (t2.alloc (χ #[O ι 0, σ none 0 0] 36)) t2.heap.size [O ι 0, σ none 0 0]) := fun j x hx => (zd t2 _ 36 _ rfl j).trans (by simpa using hx)
   have FB : Hid (∀ j, (t2.alloc (χ #[O ι 0, σ none 0 0] 36)).frozen? ⟨t2.heap.size, j, none⟩ = false) := fun j => ((Ext.refl t2).alloc _ _).unfrozen (Nat.le_refl _) j
   have HB : Hid (w3.heap.size ≤ t2.heap.size ∧ t2.heap.size < (t2.alloc (χ #[O ι 0, σ none 0 0] 36)).heap.size) := ⟨XW.out.size, by simp⟩
   replace XW := hide (Bel.tr XW.out xx)
   replace U1 := hide (U1.out.keep xx)
   replace U2 := hide (U2.out.keep xx)
   clear xx
   generalize (t2.alloc (χ #[O ι 0, σ none 0 0] 36)) = t2s at AB FB HB XW U1 U2 ⊢
   generalize t2.heap.size = B at AB FB HB ⊢
   refine ze (i := 6) (by kernel_rfl) rfl (fun K hK => ?_)
   go_simp
   refine (zr o.st (zk I2.out (Bel.tr HX3.out.bl XW.out)) (zk J2.out (Bel.tr HX3.out.bl XW.out)) o.off L2.out.1 L2.out.2).mono ?_
   rintro e t3s ⟨b2, e2, rfl, hg1, hg2, hg3, rx, rs, xx⟩
   replace XW := hide (Bel.tr XW.out xx.bl)
   replace U1 := hide (U1.out.keep xx.bl)
   replace U2 := hide (U2.out.keep xx.bl)
   replace FB : Hid (∀ j, _ = false) := fun j => (Below.frozen xx.bl (p := ⟨B, j, none⟩) HB.out.2).trans (FB.out j)
   replace AB := hide (AB.out.keep xx.bl)
   replace HB := hide (And.intro HB.out.1 (Nat.lt_of_lt_of_le HB.out.2 (Below.size xx.bl)))
   have U3 : Hid (AV t3s (γ #[O ι o.st, σ (some ⟨b2, 0, none⟩) o.xs.length o.xs.length, σ (some ⟨e2, 0, none⟩) o.sv.length o.sv.length, O ι o.off]) o) := ⟨_, _, _, _, rfl, rx.ints rfl, rs.ints rfl, L2.out⟩
   clear hg1 hg2 hg3 rx rs xx
   refine hK.out _ _ (fun _ => HS14.out _ XW.out) ?_
   clear hK K
   try simp only [aP, sT, sZ, sS]
   refine ze (i := 7) (by kernel_rfl) rfl (fun K hK => ?_)
   go_simp
   refine (zi4 ax U1.out HG.out HL.out U2.out U3.out).mono ?_
   intro e t4s hans
   obtain ⟨cc, u, ts, rfl, hok, hms, xx⟩ := hans
   obtain ⟨su, cu, rfl⟩ := hms.form
   have HOK := hide hok
   have MS := hide hms
   have hBW := HB.out.2
   replace XW := hide (Bel.tr XW.out xx)
   replace FB : Hid (∀ j, _ = false) := fun j => (Below.frozen xx (p := ⟨B, j, none⟩) HB.out.2).trans (FB.out j)
   replace AB := hide (AB.out.keep xx)
   replace HB := hide (And.intro HB.out.1 (Nat.lt_of_lt_of_le HB.out.2 (Below.size xx)))
   clear hok hms xx U1 U2 U3
   refine hK.out _ _ (fun _ => HS14.out _ XW.out) ?_
   clear hK K
   try simp only [aP, sT, sZ, sS]
   have q0 := AB.out 0 _ rfl
   have q1 := AB.out 1 _ rfl
   have f0 := FB.out 0
   have f1 := FB.out 1
   refine ze (i := 9) (by kernel_rfl) rfl (fun K hK => ?_)
   go_simp
   refine hK.out _ _ (fun _ => HS14.out _ ((XW.out.setCell (p := ⟨B, 0, none⟩) HB.out.1 _).setCell (p := ⟨B, 1, none⟩) HB.out.1 _)) ?_
   clear hK K
   try simp only [aP, sT, sZ, sS]
   refine zg (by kernel_rfl) ?_ _
   refine ⟨rfl, γ #[σ (some ⟨g, 0, none⟩) ss.length ss.length], γ #[O ι a.st, σ (some ⟨b1, 0, none⟩) a.xs.length a.xs.length, σ (some ⟨e1, 0, none⟩) a.sv.length a.sv.length, O ι a.off], γ #[O ι o.st, σ (some ⟨b2, 0, none⟩) o.xs.length o.xs.length, σ (some ⟨e2, 0, none⟩) o.sv.length o.sv.length, O ι o.off], γ #[O ι cc, σ su ts.length cu], B, cc, su, cu, ts, by kernel_rfl, AB.out.two _ _, HOK.out, ?_, (XW.out.setCell (p := ⟨B, 0, none⟩) HB.out.1 _).setCell (p := ⟨B, 1, none⟩) HB.out.1 _, by simp [World.setCell]; exact HB.out.2⟩
   exact ((MS.out.far hBW _).far hBW _).sv
  refine ⟨_, rfl, fun K hK => ?_⟩
  go_simp
  refine (zr o.st (zk I2.out (Bel.tr HX3.out.bl XW.out)) (zk J2.out (Bel.tr HX3.out.bl XW.out)) o.off L2.out.1 L2.out.2).mono ?_
  rintro e t3 ⟨b2, e2, rfl, hg1, hg2, hg3, rx, rs, xx⟩
  replace XW := hide (Bel.tr XW.out xx.bl)
  replace U1 := hide (U1.out.keep xx.bl)
  replace U2 := hide (U2.out.keep xx.bl)
  have U3 : Hid (AV t3 (γ #[O ι o.st, σ (some ⟨b2, 0, none⟩) o.xs.length o.xs.length, σ (some ⟨e2, 0, none⟩) o.sv.length o.sv.length, O ι o.off]) o) := ⟨_, _, _, _, rfl, rx.ints rfl, rs.ints rfl, L2.out⟩
  clear hg1 hg2 hg3 rx rs xx
  refine hK.out _ _ (fun _ => HS14.out _ XW.out) ?_
  clear hK K
  try simp only [aP, sT, sZ, sS]
  refine zk1 (rs := [7, 8]) (by kernel_rfl) (by simp) (fun i hi => ?_)
  simp only [List.mem_cons, List.not_mem_nil, or_false] at hi
  rcases hi with rfl | rfl
  rotate_left
  ·refine ⟨_, rfl, fun K hK => ?_⟩
   go_simp
   refine hK.out _ _ (fun _ => HS14.out _ (Bel.tr XW.out ((Ext.refl t3).alloc _ _).bl)) ?_
   clear hK K
   try simp only [aP, sT, sZ, sS]
   have xx : Bel t3 (t3.alloc (χ #[O ι 0, σ none 0 0] 36)) := ((Ext.refl t3).alloc _ _).bl
   have AB : Hid (AtB (t3.alloc (χ #[O ι 0, σ none 0 0] 36)) t3.heap.size [O ι 0, σ none 0 0]) := fun j x hx => (zd t3 _ 36 _ rfl j).trans (by simpa using hx)
   have FB : Hid (∀ j, (t3.alloc (χ #[O ι 0, σ none 0 0] 36)).frozen? ⟨t3.heap.size, j, none⟩ = false) := fun j => ((Ext.refl t3).alloc _ _).unfrozen (Nat.le_refl _) j
   have HB : Hid (w3.heap.size ≤ t3.heap.size ∧ t3.heap.size < (t3.alloc (χ #[O ι 0, σ none 0 0] 36)).heap.size) := ⟨XW.out.size, by simp⟩
   replace XW := hide (Bel.tr XW.out xx)
   replace U1 := hide (U1.out.keep xx)
   replace U2 := hide (U2.out.keep xx)
   replace U3 := hide (U3.out.keep xx)
   clear xx
   generalize (t3.alloc (χ #[O ι 0, σ none 0 0] 36)) = t3s at AB FB HB XW U1 U2 U3 ⊢
   generalize t3.heap.size = B at AB FB HB ⊢
   refine ze (i := 7) (by kernel_rfl) rfl (fun K hK => ?_)
   go_simp
   refine (zi4 ax U1.out HG.out HL.out U2.out U3.out).mono ?_
   intro e t4s hans
   obtain ⟨cc, u, ts, rfl, hok, hms, xx⟩ := hans
   obtain ⟨su, cu, rfl⟩ := hms.form
   have HOK := hide hok
   have MS := hide hms
   have hBW := HB.out.2
   replace XW := hide (Bel.tr XW.out xx)
   replace FB : Hid (∀ j, _ = false) := fun j => (Below.frozen xx (p := ⟨B, j, none⟩) HB.out.2).trans (FB.out j)
   replace AB := hide (AB.out.keep xx)
   replace HB := hide (And.intro HB.out.1 (Nat.lt_of_lt_of_le HB.out.2 (Below.size xx)))
   clear hok hms xx U1 U2 U3
   refine hK.out _ _ (fun _ => HS14.out _ XW.out) ?_
   clear hK K
   try simp only [aP, sT, sZ, sS]
   have q0 := AB.out 0 _ rfl
   have q1 := AB.out 1 _ rfl
   have f0 := FB.out 0
   have f1 := FB.out 1
   refine ze (i := 9) (by kernel_rfl) rfl (fun K hK => ?_)
   go_simp
   refine hK.out _ _ (fun _ => HS14.out _ ((XW.out.setCell (p := ⟨B, 0, none⟩) HB.out.1 _).setCell (p := ⟨B, 1, none⟩) HB.out.1 _)) ?_
   clear hK K
   try simp only [aP, sT, sZ, sS]
   refine zg (by kernel_rfl) ?_ _
   refine ⟨rfl, γ #[σ (some ⟨g, 0, none⟩) ss.length ss.length], γ #[O ι a.st, σ (some ⟨b1, 0, none⟩) a.xs.length a.xs.length, σ (some ⟨e1, 0, none⟩) a.sv.length a.sv.length, O ι a.off], γ #[O ι o.st, σ (some ⟨b2, 0, none⟩) o.xs.length o.xs.length, σ (some ⟨e2, 0, none⟩) o.sv.length o.sv.length, O ι o.off], γ #[O ι cc, σ su ts.length cu], B, cc, su, cu, ts, by kernel_rfl, AB.out.two _ _, HOK.out, ?_, (XW.out.setCell (p := ⟨B, 0, none⟩) HB.out.1 _).setCell (p := ⟨B, 1, none⟩) HB.out.1 _, by simp [World.setCell]; exact HB.out.2⟩
   exact ((MS.out.far hBW _).far hBW _).sv
  refine ⟨_, rfl, fun K hK => ?_⟩
  go_simp
  refine (zi4 ax U1.out HG.out HL.out U2.out U3.out).mono ?_
  intro e t4 hans
  obtain ⟨cc, u, ts, rfl, hok, hms, xx⟩ := hans
  obtain ⟨su, cu, rfl⟩ := hms.form
  have HOK := hide hok
  have MS := hide hms
  replace XW := hide (Bel.tr XW.out xx)
  clear hok hms xx U1 U2 U3
  refine hK.out _ _ (fun _ => HS14.out _ XW.out) ?_
  clear hK K
  try simp only [aP, sT, sZ, sS]
  refine ze (i := 8) (by kernel_rfl) rfl (fun K hK => ?_)
  go_simp
  refine hK.out _ _ (fun _ => HS14.out _ (Bel.tr XW.out ((Ext.refl t4).alloc _ _).bl)) ?_
  clear hK K
  try simp only [aP, sT, sZ, sS]
  have xx : Bel t4 (t4.alloc (χ #[O ι 0, σ none 0 0] 36)) := ((Ext.refl t4).alloc _ _).bl
  have AB : Hid (AtB (t4.alloc (χ #[O ι 0, σ none 0 0] 36)) t4.heap.size [O ι 0, σ none 0 0]) := fun j x hx => (zd t4 _ 36 _ rfl j).trans (by simpa using hx)
  have FB : Hid (∀ j, (t4.alloc (χ #[O ι 0, σ none 0 0] 36)).frozen? ⟨t4.heap.size, j, none⟩ = false) := fun j => ((Ext.refl t4).alloc _ _).unfrozen (Nat.le_refl _) j
  have HB : Hid (w3.heap.size ≤ t4.heap.size ∧ t4.heap.size < (t4.alloc (χ #[O ι 0, σ none 0 0] 36)).heap.size) := ⟨XW.out.size, by simp⟩
  replace XW := hide (Bel.tr XW.out xx)
  have XL := hide xx
  have HBL : Hid (t4.heap.size ≤ t4.heap.size) := Nat.le_refl _
  clear xx
  generalize (t4.alloc (χ #[O ι 0, σ none 0 0] 36)) = t4s at AB FB HB XW XL ⊢
  obtain ⟨B, hBe⟩ : ∃ B, B = t4.heap.size := ⟨_, rfl⟩
  rw [← hBe] at AB FB HB ⊢
  have HBe := hide hBe
  clear hBe HBL
  have q0 := AB.out 0 _ rfl
  have q1 := AB.out 1 _ rfl
  have f0 := FB.out 0
  have f1 := FB.out 1
  refine ze (i := 9) (by kernel_rfl) rfl (fun K hK => ?_)
  go_simp
  refine hK.out _ _ (fun _ => HS14.out _ ((XW.out.setCell (p := ⟨B, 0, none⟩) HB.out.1 _).setCell (p := ⟨B, 1, none⟩) HB.out.1 _)) ?_
  clear hK K
  try simp only [aP, sT, sZ, sS]
  refine zg (by kernel_rfl) ?_ _
  refine ⟨rfl, γ #[σ (some ⟨g, 0, none⟩) ss.length ss.length], γ #[O ι a.st, σ (some ⟨b1, 0, none⟩) a.xs.length a.xs.length, σ (some ⟨e1, 0, none⟩) a.sv.length a.sv.length, O ι a.off], γ #[O ι o.st, σ (some ⟨b2, 0, none⟩) o.xs.length o.xs.length, σ (some ⟨e2, 0, none⟩) o.sv.length o.sv.length, O ι o.off], γ #[O ι cc, σ su ts.length cu], B, cc, su, cu, ts, by kernel_rfl, AB.out.two _ _, HOK.out, ?_, (XW.out.setCell (p := ⟨B, 0, none⟩) HB.out.1 _).setCell (p := ⟨B, 1, none⟩) HB.out.1 _, by simp [World.setCell]; exact HB.out.2⟩
  exact MS.out.sv.keep ((XL.out.setCell (p := ⟨B, 0, none⟩) (by show _ ≤ B; have := HBe.out; omega) _).setCell (p := ⟨B, 1, none⟩) (by show _ ≤ B; have := HBe.out; omega) _)
 rintro a' w5 ⟨y1_0, y2_0, y3_0, y4_0, B0, cc0, su0, cu0, ts0, rfl, hab, hok, hsv, b0, hbs⟩
 have HX5 := hide (HX3.out.keep b0)
 have RB0 := hide hab
 have RO0 := hide hok
 have RV0 := hide hsv
 have RS0 := hide hbs
 have BB0 := hide b0
 clear hab hok hsv b0 hbs HS14 SA XW
 simp only [aP, sT, sZ, sS]
 have c0 := HX5.out.h
 have a0 := HX5.out.a 0 _ rfl
 have a1 := HX5.out.a 1 _ rfl
 have a2 := HX5.out.a 2 _ rfl
 have a3 := HX5.out.a 3 _ rfl
 have o0 := HX5.out.o 0 _ rfl
 have o1 := HX5.out.o 1 _ rfl
 have o2 := HX5.out.o 2 _ rfl
 have o3 := HX5.out.o 3 _ rfl
 go_wp2_with fail
 refine (zj2 (HV.out.keep HX5.out.bl) HL.out).mono ?_
 rintro e w6 ⟨g6, rfl, hg6, rp, xx⟩
 have C6 := hide (CpH.new hg6 rp xx)
 have D6 : Hid (Bel w5 (w6.alloc (χ #[σ (some ⟨g6, 0, none⟩) ss.length ss.length] 34))) := Bel.tr xx.bl ((Ext.refl w6).alloc _ _).bl
 have zd6 := Below.size D6.out
 have HX6 := hide (HX5.out.keep D6.out)
 clear hg6 rp xx c0 a0 a1 a2 a3 o0 o1 o2 o3
 have c0 := HX6.out.h
 have a0 := HX6.out.a 0 _ rfl
 have a1 := HX6.out.a 1 _ rfl
 have a2 := HX6.out.a 2 _ rfl
 have a3 := HX6.out.a 3 _ rfl
 have o0 := HX6.out.o 0 _ rfl
 have o1 := HX6.out.o 1 _ rfl
 have o2 := HX6.out.o 2 _ rfl
 have o3 := HX6.out.o 3 _ rfl
 go_wp2_with fail
 generalize w6.alloc (χ #[σ (some ⟨g6, 0, none⟩) ss.length ss.length] 34) = W6 at C6 D6 HX6 zd6 c0 a0 a1 a2 a3 o0 o1 o2 o3 ⊢
 generalize w6.heap.size = B6 at C6 ⊢
 refine (zr a.st (zk I1.out HX6.out.bl) (zk J1.out HX6.out.bl) a.off L1.out.1 L1.out.2).mono ?_
 rintro e w7 ⟨b7, e7, rfl, hg1, hg2, hg3, rx, rs, xx⟩
 have C7 := hide (CpA.new hg1 hg2 hg3 rx rs xx)
 have z7 := C6.out.Bs
 have xy : Bel W6 (w7.alloc (χ #[O ι a.st, σ (some ⟨b7, 0, none⟩) a.xs.length a.xs.length, σ (some ⟨e7, 0, none⟩) a.sv.length a.sv.length, O ι a.off] 41)) := Bel.tr xx.bl ((Ext.refl w7).alloc _ _).bl
 replace C6 := hide (C6.out.keep xy)
 replace D6 := hide (Bel.tr D6.out xy)
 have HX7 := hide (HX6.out.keep xy)
 have zz7 := Below.size xy
 clear hg1 hg2 hg3 rx rs xx xy c0 a0 a1 a2 a3 o0 o1 o2 o3 HX6
 have c0 := HX7.out.h
 have a0 := HX7.out.a 0 _ rfl
 have a1 := HX7.out.a 1 _ rfl
 have a2 := HX7.out.a 2 _ rfl
 have a3 := HX7.out.a 3 _ rfl
 have o0 := HX7.out.o 0 _ rfl
 have o1 := HX7.out.o 1 _ rfl
 have o2 := HX7.out.o 2 _ rfl
 have o3 := HX7.out.o 3 _ rfl
 go_wp2_with fail
 generalize w7.alloc (χ #[O ι a.st, σ (some ⟨b7, 0, none⟩) a.xs.length a.xs.length, σ (some ⟨e7, 0, none⟩) a.sv.length a.sv.length, O ι a.off] 41) = W7 at C6 C7 D6 HX7 zz7 c0 a0 a1 a2 a3 o0 o1 o2 o3 ⊢
 generalize w7.heap.size = B7 at C7 ⊢
 refine (zr o.st (zk I2.out HX7.out.bl) (zk J2.out HX7.out.bl) o.off L2.out.1 L2.out.2).mono ?_
 rintro e w8 ⟨b8, e8, rfl, hg1, hg2, hg3, rx, rs, xx⟩
 have C8 := hide (CpA.new hg1 hg2 hg3 rx rs xx)
 have z8 := C7.out.Bs
 have xy : Bel W7 (w8.alloc (χ #[O ι o.st, σ (some ⟨b8, 0, none⟩) o.xs.length o.xs.length, σ (some ⟨e8, 0, none⟩) o.sv.length o.sv.length, O ι o.off] 41)) := Bel.tr xx.bl ((Ext.refl w8).alloc _ _).bl
 replace C6 := hide (C6.out.keep xy)
 replace C7 := hide (C7.out.keep xy)
 replace D6 := hide (Bel.tr D6.out xy)
 have HX8 := hide (HX7.out.keep xy)
 have zz8 := Below.size xy
 clear hg1 hg2 hg3 rx rs xx xy c0 a0 a1 a2 a3 o0 o1 o2 o3 HX7
 have m60 := C6.out.box
 have m70 : (_ : Option Value) = some (O ι a.st) := C7.out.box 0 _ rfl
 have m71 : (_ : Option Value) = some (σ (some ⟨b7, 0, none⟩) a.xs.length a.xs.length) := C7.out.box 1 _ rfl
 have m72 : (_ : Option Value) = some (σ (some ⟨e7, 0, none⟩) a.sv.length a.sv.length) := C7.out.box 2 _ rfl
 have m73 : (_ : Option Value) = some (O ι a.off) := C7.out.box 3 _ rfl
 have m80 : (_ : Option Value) = some (O ι o.st) := C8.out.box 0 _ rfl
 have m81 : (_ : Option Value) = some (σ (some ⟨b8, 0, none⟩) o.xs.length o.xs.length) := C8.out.box 1 _ rfl
 have m82 : (_ : Option Value) = some (σ (some ⟨e8, 0, none⟩) o.sv.length o.sv.length) := C8.out.box 2 _ rfl
 have m83 : (_ : Option Value) = some (O ι o.off) := C8.out.box 3 _ rfl
 go_wp2_with fail
 generalize w8.alloc (χ #[O ι o.st, σ (some ⟨b8, 0, none⟩) o.xs.length o.xs.length, σ (some ⟨e8, 0, none⟩) o.sv.length o.sv.length, O ι o.off] 41) = W8 at C6 C7 C8 D6 HX8 zz8 m60 m70 m71 m72 m73 m80 m81 m82 m83 ⊢
 generalize w8.heap.size = B8 at C8 m80 m81 m82 m83 ⊢
 refine (za4 ax C6.out.sv HG.out HL.out (C7.out.av L1.out) (C8.out.av L2.out)).mono ?_
 intro e w10 hans
 obtain ⟨cc, u, ts, rfl, hok, hms, xx⟩ := hans
 obtain ⟨hcc, hsm⟩ := ArgOk.same hok RO0.out
 have hcc := hcc.symm
 subst hcc
 obtain ⟨su, cu, rfl⟩ := hms.form
 have HSM := hide hsm
 have GT := hide (hok.good HG.out)
 have FT := hide (hok.few HL.out)
 have GT0 := hide (RO0.out.good HG.out)
 have z10 := Below.size xx
 have zb9 := C8.out.Bs
 have xz : Bel w10 (w10.alloc (χ #[O ι cc0, σ su ts.length cu] 36)) := ((Ext.refl w10).alloc _ _).bl
 have xy : Bel W8 (w10.alloc (χ #[O ι cc0, σ su ts.length cu] 36)) := Bel.tr xx xz
 have MO := hide (hms.high.bel xz)
 have AB : Hid (AtB (w10.alloc (χ #[O ι cc0, σ su ts.length cu] 36)) w10.heap.size [O ι cc0, σ su ts.length cu]) := fun j x hx => (zd w10 _ 36 _ rfl j).trans (by simpa using hx)
 replace C6 := hide (C6.out.keep xy)
 replace C7 := hide (C7.out.keep xy)
 replace C8 := hide (C8.out.keep xy)
 replace D6 := hide (Bel.tr D6.out xy)
 clear hok hms xx xy xz hsm m60 m70 m71 m72 m73 m80 m81 m82 m83
 have n0 : (_ : Option Value) = some (O ι cc0) := AB.out 0 _ rfl
 have n1 : (_ : Option Value) = some (σ su ts.length cu) := AB.out 1 _ rfl
 have r0 : (_ : Option Value) = some (O ι cc0) := (RB0.out.keep D6.out) 0 _ rfl
 have r1 : (_ : Option Value) = some (σ su0 ts0.length cu0) := (RB0.out.keep D6.out) 1 _ rfl
 go_wp2_with fail
 generalize w10.alloc (χ #[O ι cc0, σ su ts.length cu] 36) = W10 at MO AB C6 C7 C8 D6 n0 n1 r0 r1 ⊢
 generalize w10.heap.size = B10 at MO AB z10 n0 n1 ⊢
 refine (zc10 cc0 MO.out.own.sv (RV0.out.keep D6.out) HSM.out GT.out GT0.out FT.out).mono ?_
 rintro e w11 ⟨rfl, xx⟩
 replace MO := hide (MO.out.bel xx.bl)
 replace AB := hide (AB.out.keep xx.bl)
 replace C6 := hide (C6.out.keep xx.bl)
 replace C7 := hide (C7.out.keep xx.bl)
 replace C8 := hide (C8.out.keep xx.bl)
 replace D6 := hide (Bel.tr D6.out xx.bl)
 have HX11 := hide (HX5.out.keep D6.out)
 clear n0 n1 r0 r1 xx
 have m60 := C6.out.box
 have c0 := HX11.out.h
 go_wp2_with fail
 have HS14 : Hid (∀ W, Bel w11 W → (fun w' : World => w'.cell? ⟨B6, 0, none⟩ = some (σ (some ⟨g6, 0, none⟩) ss.length ss.length) ∧ w'.cell? ⟨w.heap.size, 0, none⟩ = some (σ sa ss.length cap)) W) := fun W x => ⟨Bel.box x m60, Bel.box x c0⟩
 have SA := hide (HS14.out w11.drew (Ext.refl w11).drew.bl)
 have XW : Hid (Bel w11 w11.drew) := (Ext.refl w11).drew.bl
 clear m60 c0
 refine zq (fun ac a' w' => ∃ y : Value, a' = (((((ac.put (some 57) (γ #[σ (some ⟨g6, 0, none⟩) ss.length ss.length])).put (some 58) (γ #[σ sa ss.length cap])).put (some 59) (y)).put (some 60) (.bool true)).put (some 61) (.bool false)) ∧ Bel w11 w') (S := (fun w' : World => w'.cell? ⟨B6, 0, none⟩ = some (σ (some ⟨g6, 0, none⟩) ss.length ss.length) ∧ w'.cell? ⟨w.heap.size, 0, none⟩ = some (σ sa ss.length cap))) (late := []) (by kernel_rfl) ?_ ?_
 rotate_left
 ·refine zl27 0 57 (γ #[σ (some ⟨g6, 0, none⟩) ss.length ss.length]) rfl (.inl ⟨by kernel_rfl, ?_⟩) SA.out ?_
  ·rintro w' ⟨z0, z1⟩
   go_simp
  simp only [aP, sT, sZ, sS]
  refine zl27 1 58 (γ #[σ sa ss.length cap]) rfl (.inl ⟨by kernel_rfl, ?_⟩) SA.out ?_
  ·rintro w' ⟨z0, z1⟩
   go_simp
  simp only [aP, sT, sZ, sS]
  clear SA
  generalize w11.drew = t0 at XW ⊢
  refine ze (i := 2) (by kernel_rfl) rfl (fun K hK => ?_)
  go_simp
  refine (zj2 (HV.out.keep (Bel.tr HX11.out.bl XW.out)) HL.out).mono ?_
  rintro e t1 ⟨g, rfl, hgl, rp, xx⟩
  replace XW := hide (Bel.tr XW.out xx.bl)
  have U1 : Hid (SV t1 (σ (some ⟨g, 0, none⟩) ss.length ss.length) ss) := rp.sv rfl
  clear hgl rp xx
  refine hK.out _ _ (fun _ => HS14.out _ XW.out) ?_
  clear hK K
  try simp only [aP, sT, sZ, sS]
  refine ze (i := 3) (by kernel_rfl) rfl (fun K hK => ?_)
  go_simp
  refine (zh14 (C6.out.sv.keep XW.out) U1.out HG.out HL.out).mono ?_
  rintro e t2 ⟨rfl, xx⟩
  replace XW := hide (Bel.tr XW.out xx.bl)
  clear xx
  refine hK.out _ _ (fun _ => HS14.out _ XW.out) ?_
  clear hK K
  try simp only [aP, sT, sZ, sS]
  refine ze (i := 4) (by kernel_rfl) rfl (fun K hK => ?_)
  go_simp
  refine hK.out _ _ (fun _ => HS14.out _ XW.out) ?_
  clear hK K
  try simp only [aP, sT, sZ, sS]
  refine zg (by kernel_rfl) ?_ _
  exact ⟨rfl, γ #[σ (some ⟨g, 0, none⟩) ss.length ss.length], by kernel_rfl, XW.out⟩
 rintro a' w12 ⟨yy6, rfl, xx⟩
 replace MO := hide (MO.out.bel xx)
 replace AB := hide (AB.out.keep xx)
 replace C6 := hide (C6.out.keep xx)
 replace C7 := hide (C7.out.keep xx)
 replace C8 := hide (C8.out.keep xx)
 replace D6 := hide (Bel.tr D6.out xx)
 have HX12 := hide (HX11.out.keep xx)
 clear xx HS14 SA XW HX11
 simp only [aP, sT, sZ, sS]
 have m70 : (_ : Option Value) = some (O ι a.st) := C7.out.box 0 _ rfl
 have m71 : (_ : Option Value) = some (σ (some ⟨b7, 0, none⟩) a.xs.length a.xs.length) := C7.out.box 1 _ rfl
 have m72 : (_ : Option Value) = some (σ (some ⟨e7, 0, none⟩) a.sv.length a.sv.length) := C7.out.box 2 _ rfl
 have m73 : (_ : Option Value) = some (O ι a.off) := C7.out.box 3 _ rfl
 have a0 := HX12.out.a 0 _ rfl
 have a1 := HX12.out.a 1 _ rfl
 have a2 := HX12.out.a 2 _ rfl
 have a3 := HX12.out.a 3 _ rfl
 go_wp2_with fail
 have HS14 : Hid (∀ W, Bel w12 W → (fun w' : World => w'.cell? ⟨B7, 0, none⟩ = some (O ι a.st) ∧ w'.cell? ⟨B7, 1, none⟩ = some (σ (some ⟨b7, 0, none⟩) a.xs.length a.xs.length) ∧ w'.cell? ⟨B7, 2, none⟩ = some (σ (some ⟨e7, 0, none⟩) a.sv.length a.sv.length) ∧ w'.cell? ⟨B7, 3, none⟩ = some (O ι a.off) ∧ w'.cell? ⟨w.heap.size + 1, 0, none⟩ = some (O ι a.st) ∧ w'.cell? ⟨w.heap.size + 1, 1, none⟩ = some (σ p1 a.xs.length c1) ∧ w'.cell? ⟨w.heap.size + 1, 2, none⟩ = some (σ q1 a.sv.length d1) ∧ w'.cell? ⟨w.heap.size + 1, 3, none⟩ = some (O ι a.off)) W) := fun W x => ⟨Bel.box x m70, Bel.box x m71, Bel.box x m72, Bel.box x m73, Bel.box x a0, Bel.box x a1, Bel.box x a2, Bel.box x a3⟩
 have SA := hide (HS14.out w12.drew (Ext.refl w12).drew.bl)
 have XW : Hid (Bel w12 w12.drew) := (Ext.refl w12).drew.bl
 clear m70 m71 m72 m73 a0 a1 a2 a3
 refine zq (fun ac a' w' => ∃ y : Value, a' = (((((ac.put (some 62) (γ #[O ι a.st, σ (some ⟨b7, 0, none⟩) a.xs.length a.xs.length, σ (some ⟨e7, 0, none⟩) a.sv.length a.sv.length, O ι a.off])).put (some 63) (γ #[O ι a.st, σ p1 a.xs.length c1, σ q1 a.sv.length d1, O ι a.off])).put (some 64) (y)).put (some 65) (.bool true)).put (some 66) (.bool false)) ∧ Bel w12 w') (S := (fun w' : World => w'.cell? ⟨B7, 0, none⟩ = some (O ι a.st) ∧ w'.cell? ⟨B7, 1, none⟩ = some (σ (some ⟨b7, 0, none⟩) a.xs.length a.xs.length) ∧ w'.cell? ⟨B7, 2, none⟩ = some (σ (some ⟨e7, 0, none⟩) a.sv.length a.sv.length) ∧ w'.cell? ⟨B7, 3, none⟩ = some (O ι a.off) ∧ w'.cell? ⟨w.heap.size + 1, 0, none⟩ = some (O ι a.st) ∧ w'.cell? ⟨w.heap.size + 1, 1, none⟩ = some (σ p1 a.xs.length c1) ∧ w'.cell? ⟨w.heap.size + 1, 2, none⟩ = some (σ q1 a.sv.length d1) ∧ w'.cell? ⟨w.heap.size + 1, 3, none⟩ = some (O ι a.off))) (late := []) (by kernel_rfl) ?_ ?_
 rotate_left
 ·refine zl27 0 62 (γ #[O ι a.st, σ (some ⟨b7, 0, none⟩) a.xs.length a.xs.length, σ (some ⟨e7, 0, none⟩) a.sv.length a.sv.length, O ι a.off]) rfl (.inl ⟨by kernel_rfl, ?_⟩) SA.out ?_
  ·rintro w' ⟨z0, z1, z2, z3, z4, z5, z6, z7⟩
   go_simp
  simp only [aP, sT, sZ, sS]
  refine zl27 1 63 (γ #[O ι a.st, σ p1 a.xs.length c1, σ q1 a.sv.length d1, O ι a.off]) rfl (.inl ⟨by kernel_rfl, ?_⟩) SA.out ?_
  ·rintro w' ⟨z0, z1, z2, z3, z4, z5, z6, z7⟩
   go_simp
  simp only [aP, sT, sZ, sS]
  clear SA
  generalize w12.drew = t0 at XW ⊢
  refine ze (i := 2) (by kernel_rfl) rfl (fun K hK => ?_)
  go_simp
  refine (zr a.st (zk I1.out (Bel.tr HX12.out.bl XW.out)) (zk J1.out (Bel.tr HX12.out.bl XW.out)) a.off L1.out.1 L1.out.2).mono ?_
  rintro e t1 ⟨b1, e1, rfl, hg1, hg2, hg3, rx, rs, xx⟩
  replace XW := hide (Bel.tr XW.out xx.bl)
  have U1 : Hid (Ints t1 (σ (some ⟨b1, 0, none⟩) a.xs.length a.xs.length) a.xs ∧ Ints t1 (σ (some ⟨e1, 0, none⟩) a.sv.length a.sv.length) a.sv) := ⟨rx.ints rfl, rs.ints rfl⟩
  clear hg1 hg2 hg3 rx rs xx
  refine hK.out _ _ (fun _ => HS14.out _ XW.out) ?_
  clear hK K
  try simp only [aP, sT, sZ, sS]
  refine ze (i := 3) (by kernel_rfl) rfl (fun K hK => ?_)
  go_simp
  refine (zs5 a.st a.off (zk (C7.out.x.ints rfl) XW.out) (zk (C7.out.s.ints rfl) XW.out) U1.out.1 U1.out.2 L1.out.1 L1.out.2).mono ?_
  rintro e t2 ⟨rfl, xx⟩
  replace XW := hide (Bel.tr XW.out xx.bl)
  clear xx
  refine hK.out _ _ (fun _ => HS14.out _ XW.out) ?_
  clear hK K
  try simp only [aP, sT, sZ, sS]
  refine ze (i := 4) (by kernel_rfl) rfl (fun K hK => ?_)
  go_simp
  refine hK.out _ _ (fun _ => HS14.out _ XW.out) ?_
  clear hK K
  try simp only [aP, sT, sZ, sS]
  refine zg (by kernel_rfl) ?_ _
  exact ⟨rfl, γ #[O ι a.st, σ (some ⟨b1, 0, none⟩) a.xs.length a.xs.length, σ (some ⟨e1, 0, none⟩) a.sv.length a.sv.length, O ι a.off], by kernel_rfl, XW.out⟩
 rintro a' w13 ⟨yy7, rfl, xx⟩
 replace MO := hide (MO.out.bel xx)
 replace AB := hide (AB.out.keep xx)
 replace C6 := hide (C6.out.keep xx)
 replace C7 := hide (C7.out.keep xx)
 replace C8 := hide (C8.out.keep xx)
 replace D6 := hide (Bel.tr D6.out xx)
 have HX13 := hide (HX12.out.keep xx)
 clear xx HS14 SA XW HX12
 simp only [aP, sT, sZ, sS]
 have m80 : (_ : Option Value) = some (O ι o.st) := C8.out.box 0 _ rfl
 have m81 : (_ : Option Value) = some (σ (some ⟨b8, 0, none⟩) o.xs.length o.xs.length) := C8.out.box 1 _ rfl
 have m82 : (_ : Option Value) = some (σ (some ⟨e8, 0, none⟩) o.sv.length o.sv.length) := C8.out.box 2 _ rfl
 have m83 : (_ : Option Value) = some (O ι o.off) := C8.out.box 3 _ rfl
 have o0 := HX13.out.o 0 _ rfl
 have o1 := HX13.out.o 1 _ rfl
 have o2 := HX13.out.o 2 _ rfl
 have o3 := HX13.out.o 3 _ rfl
 go_wp2_with fail
 have HS14 : Hid (∀ W, Bel w13 W → (fun w' : World => w'.cell? ⟨B8, 0, none⟩ = some (O ι o.st) ∧ w'.cell? ⟨B8, 1, none⟩ = some (σ (some ⟨b8, 0, none⟩) o.xs.length o.xs.length) ∧ w'.cell? ⟨B8, 2, none⟩ = some (σ (some ⟨e8, 0, none⟩) o.sv.length o.sv.length) ∧ w'.cell? ⟨B8, 3, none⟩ = some (O ι o.off) ∧ w'.cell? ⟨w.heap.size + 1 + 1, 0, none⟩ = some (O ι o.st) ∧ w'.cell? ⟨w.heap.size + 1 + 1, 1, none⟩ = some (σ p2 o.xs.length c2) ∧ w'.cell? ⟨w.heap.size + 1 + 1, 2, none⟩ = some (σ q2 o.sv.length d2) ∧ w'.cell? ⟨w.heap.size + 1 + 1, 3, none⟩ = some (O ι o.off)) W) := fun W x => ⟨Bel.box x m80, Bel.box x m81, Bel.box x m82, Bel.box x m83, Bel.box x o0, Bel.box x o1, Bel.box x o2, Bel.box x o3⟩
 have SA := hide (HS14.out w13.drew (Ext.refl w13).drew.bl)
 have XW : Hid (Bel w13 w13.drew) := (Ext.refl w13).drew.bl
 clear m80 m81 m82 m83 o0 o1 o2 o3
 refine zq (fun ac a' w' => ∃ y : Value, a' = (((((ac.put (some 67) (γ #[O ι o.st, σ (some ⟨b8, 0, none⟩) o.xs.length o.xs.length, σ (some ⟨e8, 0, none⟩) o.sv.length o.sv.length, O ι o.off])).put (some 68) (γ #[O ι o.st, σ p2 o.xs.length c2, σ q2 o.sv.length d2, O ι o.off])).put (some 69) (y)).put (some 70) (.bool true)).put (some 71) (.bool false)) ∧ Bel w13 w') (S := (fun w' : World => w'.cell? ⟨B8, 0, none⟩ = some (O ι o.st) ∧ w'.cell? ⟨B8, 1, none⟩ = some (σ (some ⟨b8, 0, none⟩) o.xs.length o.xs.length) ∧ w'.cell? ⟨B8, 2, none⟩ = some (σ (some ⟨e8, 0, none⟩) o.sv.length o.sv.length) ∧ w'.cell? ⟨B8, 3, none⟩ = some (O ι o.off) ∧ w'.cell? ⟨w.heap.size + 1 + 1, 0, none⟩ = some (O ι o.st) ∧ w'.cell? ⟨w.heap.size + 1 + 1, 1, none⟩ = some (σ p2 o.xs.length c2) ∧ w'.cell? ⟨w.heap.size + 1 + 1, 2, none⟩ = some (σ q2 o.sv.length d2) ∧ w'.cell? ⟨w.heap.size + 1 + 1, 3, none⟩ = some (O ι o.off))) (late := []) (by kernel_rfl) ?_ ?_
 rotate_left
 ·refine zl27 0 67 (γ #[O ι o.st, σ (some ⟨b8, 0, none⟩) o.xs.length o.xs.length, σ (some ⟨e8, 0, none⟩) o.sv.length o.sv.length, O ι o.off]) rfl (.inl ⟨by kernel_rfl, ?_⟩) SA.out ?_
  ·rintro w' ⟨z0, z1, z2, z3, z4, z5, z6, z7⟩
   go_simp
  simp only [aP, sT, sZ, sS]
  refine zl27 1 68 (γ #[O ι o.st, σ p2 o.xs.length c2, σ q2 o.sv.length d2, O ι o.off]) rfl (.inl ⟨by kernel_rfl, ?_⟩) SA.out ?_
  ·rintro w' ⟨z0, z1, z2, z3, z4, z5, z6, z7⟩
   go_simp
  simp only [aP, sT, sZ, sS]
  clear SA
  generalize w13.drew = t0 at XW ⊢
  refine ze (i := 2) (by kernel_rfl) rfl (fun K hK => ?_)
  go_simp
  refine (zr o.st (zk I2.out (Bel.tr HX13.out.bl XW.out)) (zk J2.out (Bel.tr HX13.out.bl XW.out)) o.off L2.out.1 L2.out.2).mono ?_
  rintro e t1 ⟨b2, e2, rfl, hg1, hg2, hg3, rx, rs, xx⟩
  replace XW := hide (Bel.tr XW.out xx.bl)
  have U1 : Hid (Ints t1 (σ (some ⟨b2, 0, none⟩) o.xs.length o.xs.length) o.xs ∧ Ints t1 (σ (some ⟨e2, 0, none⟩) o.sv.length o.sv.length) o.sv) := ⟨rx.ints rfl, rs.ints rfl⟩
  clear hg1 hg2 hg3 rx rs xx
  refine hK.out _ _ (fun _ => HS14.out _ XW.out) ?_
  clear hK K
  try simp only [aP, sT, sZ, sS]
  refine ze (i := 3) (by kernel_rfl) rfl (fun K hK => ?_)
  go_simp
  refine (zs5 o.st o.off (zk (C8.out.x.ints rfl) XW.out) (zk (C8.out.s.ints rfl) XW.out) U1.out.1 U1.out.2 L2.out.1 L2.out.2).mono ?_
  rintro e t2 ⟨rfl, xx⟩
  replace XW := hide (Bel.tr XW.out xx.bl)
  clear xx
  refine hK.out _ _ (fun _ => HS14.out _ XW.out) ?_
  clear hK K
  try simp only [aP, sT, sZ, sS]
  refine ze (i := 4) (by kernel_rfl) rfl (fun K hK => ?_)
  go_simp
  refine hK.out _ _ (fun _ => HS14.out _ XW.out) ?_
  clear hK K
  try simp only [aP, sT, sZ, sS]
  refine zg (by kernel_rfl) ?_ _
  exact ⟨rfl, γ #[O ι o.st, σ (some ⟨b2, 0, none⟩) o.xs.length o.xs.length, σ (some ⟨e2, 0, none⟩) o.sv.length o.sv.length, O ι o.off], by kernel_rfl, XW.out⟩
 rintro a' w14 ⟨yy8, rfl, xx⟩
 replace MO := hide (MO.out.bel xx)
 replace AB := hide (AB.out.keep xx)
 replace C6 := hide (C6.out.keep xx)
 replace C7 := hide (C7.out.keep xx)
 replace C8 := hide (C8.out.keep xx)
 replace D6 := hide (Bel.tr D6.out xx)
 have HX14 := hide (HX13.out.keep xx)
 clear xx HS14 SA XW HX13
 simp only [aP, sT, sZ, sS]
 have m60 := C6.out.box
 go_wp2_with fail
 refine (zc11 (a := w5.heap.size) C6.out.row C6.out.lo_g (Below.size D6.out) (Nat.le_of_lt C6.out.Bs) C6.out.gB C6.out.fz HL.out).mono ?_
 rintro e w16 ⟨⟨k6, rfl, hk6, hj6⟩, mm⟩
 replace C7 := hide (C7.out.mIn mm (by omega))
 replace C8 := hide (C8.out.mIn mm (by omega))
 replace MO := hide (MO.out.mIn mm (by omega))
 replace AB := hide (AB.out.mIn mm (by omega))
 replace D6 := hide (Bel.mIn D6.out mm (Nat.le_refl _))
 clear mm C6 m60
 have m70 : (_ : Option Value) = some (O ι a.st) := C7.out.box 0 _ rfl
 have m71 : (_ : Option Value) = some (σ (some ⟨b7, 0, none⟩) a.xs.length a.xs.length) := C7.out.box 1 _ rfl
 have m72 : (_ : Option Value) = some (σ (some ⟨e7, 0, none⟩) a.sv.length a.sv.length) := C7.out.box 2 _ rfl
 have m73 : (_ : Option Value) = some (O ι a.off) := C7.out.box 3 _ rfl
 go_wp2_with fail
 refine (zs8 a.st a.off C7.out.x C7.out.s C7.out.bc (Nat.lt_trans C7.out.cB C7.out.Bs) C7.out.fz L1.out.1 L1.out.2 k6 ⟨by omega, by omega⟩).mono ?_
 rintro e w17 ⟨⟨k7, rfl, hk7, hj7⟩, mm⟩
 have zc := C7.out.cB
 have zl := C7.out.lo_b
 replace C8 := hide (C8.out.mIn mm (by omega))
 replace MO := hide (MO.out.mIn mm (by omega))
 replace AB := hide (AB.out.mIn mm (by omega))
 replace D6 := hide (Bel.mIn D6.out mm (by omega))
 clear mm C7 zc zl m70 m71 m72 m73
 have m80 : (_ : Option Value) = some (O ι o.st) := C8.out.box 0 _ rfl
 have m81 : (_ : Option Value) = some (σ (some ⟨b8, 0, none⟩) o.xs.length o.xs.length) := C8.out.box 1 _ rfl
 have m82 : (_ : Option Value) = some (σ (some ⟨e8, 0, none⟩) o.sv.length o.sv.length) := C8.out.box 2 _ rfl
 have m83 : (_ : Option Value) = some (O ι o.off) := C8.out.box 3 _ rfl
 go_wp2_with fail
 refine (zs8 o.st o.off C8.out.x C8.out.s C8.out.bc (Nat.lt_trans C8.out.cB C8.out.Bs) C8.out.fz L2.out.1 L2.out.2 k7 ⟨by omega, by omega⟩).mono ?_
 rintro e w18 ⟨⟨k8, rfl, hk8, hj8⟩, mm⟩
 have zc := C8.out.cB
 have zl := C8.out.lo_b
 replace MO := hide (MO.out.mIn mm (by omega))
 replace AB := hide (AB.out.mIn mm (by omega))
 replace D6 := hide (Bel.mIn D6.out mm (by omega))
 clear mm C8 zc zl m80 m81 m82 m83
 have hkn : decide (k8 < 0) = false := decide_eq_false (by omega)
 have n0 : (_ : Option Value) = some (O ι cc0) := AB.out 0 _ rfl
 have n1 : (_ : Option Value) = some (σ su ts.length cu) := AB.out 1 _ rfl
 have r0 : (_ : Option Value) = some (O ι cc0) := (RB0.out.keep D6.out) 0 _ rfl
 have r1 : (_ : Option Value) = some (σ su0 ts0.length cu0) := (RB0.out.keep D6.out) 1 _ rfl
 go_wp2_with fail
 refine (zc10 cc0 MO.out.own.sv (RV0.out.keep D6.out) HSM.out GT.out GT0.out FT.out).mono ?_
 rintro e w20 ⟨rfl, xx⟩
 replace MO := hide (MO.out.bel xx.bl)
 replace AB := hide (AB.out.keep xx.bl)
 replace D6 := hide (Bel.tr D6.out xx.bl)
 clear n0 n1 r0 r1 xx hkn
 have n0 : (_ : Option Value) = some (O ι cc0) := AB.out 0 _ rfl
 have n1 : (_ : Option Value) = some (σ su ts.length cu) := AB.out 1 _ rfl
 go_wp2_with fail
 refine (zy23 cc0 MO.out FT.out (Nat.le_trans z10 (Nat.le_of_lt (zj n0)))).mono ?_
 rintro e w21 ⟨rfl, hsv, mk⟩
 have HQ := hide hsv
 replace AB : Hid (AtB w21 B10 [O ι cc0, σ su ts.length cu]) := fun j x hx => mk.box (Nat.le_refl _) (AB.out j x hx)
 replace D6 : Hid (Bel w5 w21) := Below.trans D6.out (Below.mono mk.bl (by omega))
 clear n0 n1 hsv mk MO
 have n0 : (_ : Option Value) = some (O ι cc0) := AB.out 0 _ rfl
 have n1 : (_ : Option Value) = some (σ su ts.length cu) := AB.out 1 _ rfl
 have hkk := (zn11 ts FT.out 1 (by omega) ts.length (Nat.le_refl _)).1
 have HH := hide (zl17 cc0 HQ.out FT.out)
 generalize kAt ts 1 ts.length = kk at hkk HH ⊢
 have hkd : decide (kk < 0) = false := decide_eq_false (by omega)
 go_wp2_with fail
 refine HH.out.mono ?_
 rintro e w22 ⟨rfl, xx⟩
 replace D6 := hide (Bel.tr D6.out xx.bl)
 have HX22 := hide (HX5.out.keep D6.out)
 clear n0 n1 xx AB HH HQ
 have c0 := HX22.out.h
 have a0 := HX22.out.a 0 _ rfl
 have a1 := HX22.out.a 1 _ rfl
 have a2 := HX22.out.a 2 _ rfl
 have a3 := HX22.out.a 3 _ rfl
 have o0 := HX22.out.o 0 _ rfl
 have o1 := HX22.out.o 1 _ rfl
 have o2 := HX22.out.o 2 _ rfl
 have o3 := HX22.out.o 3 _ rfl
 go_wp2_with fail
 have HS14 : Hid (∀ W, Bel w22 W → (fun w' : World => w'.cell? ⟨w.heap.size, 0, none⟩ = some (σ sa ss.length cap) ∧ w'.cell? ⟨w.heap.size + 1, 0, none⟩ = some (O ι a.st) ∧ w'.cell? ⟨w.heap.size + 1, 1, none⟩ = some (σ p1 a.xs.length c1) ∧ w'.cell? ⟨w.heap.size + 1, 2, none⟩ = some (σ q1 a.sv.length d1) ∧ w'.cell? ⟨w.heap.size + 1, 3, none⟩ = some (O ι a.off) ∧ w'.cell? ⟨w.heap.size + 1 + 1, 0, none⟩ = some (O ι o.st) ∧ w'.cell? ⟨w.heap.size + 1 + 1, 1, none⟩ = some (σ p2 o.xs.length c2) ∧ w'.cell? ⟨w.heap.size + 1 + 1, 2, none⟩ = some (σ q2 o.sv.length d2) ∧ w'.cell? ⟨w.heap.size + 1 + 1, 3, none⟩ = some (O ι o.off)) W) := fun W x => ⟨Bel.box x c0, Bel.box x a0, Bel.box x a1, Bel.box x a2, Bel.box x a3, Bel.box x o0, Bel.box x o1, Bel.box x o2, Bel.box x o3⟩
 have SA := hide (HS14.out w22.drew (Ext.refl w22).drew.bl)
 have XW : Hid (Bel w22 w22.drew) := (Ext.refl w22).drew.bl
 clear c0 a0 a1 a2 a3 o0 o1 o2 o3
 refine zq (fun ac a' w' => ∃ (y1 y2 y3 y4 : Value) (B : Nat) (cc : Int) (su : Option Addr) (cu : Nat) (ts : List St), a' = (((((((((ac.put (some 100) (γ #[σ sa ss.length cap])).put (some 102) (γ #[O ι a.st, σ p1 a.xs.length c1, σ q1 a.sv.length d1, O ι a.off])).put (some 104) (O ι ax)).put (some 105) (γ #[O ι o.st, σ p2 o.xs.length c2, σ q2 o.sv.length d2, O ι o.off])).put (some 101) (y1)).put (some 103) (y2)).put (some 106) (y3)).put (some 107) (y4)).put (some 18) (π (some ⟨B, 0, none⟩))) ∧ AtB w' B [O ι cc, σ su ts.length cu] ∧ ArgOk ss a ax o cc ts ∧ SV w' (σ su ts.length cu) ts ∧ Bel w22 w' ∧ B < w'.heap.size) (S := (fun w' : World => w'.cell? ⟨w.heap.size, 0, none⟩ = some (σ sa ss.length cap) ∧ w'.cell? ⟨w.heap.size + 1, 0, none⟩ = some (O ι a.st) ∧ w'.cell? ⟨w.heap.size + 1, 1, none⟩ = some (σ p1 a.xs.length c1) ∧ w'.cell? ⟨w.heap.size + 1, 2, none⟩ = some (σ q1 a.sv.length d1) ∧ w'.cell? ⟨w.heap.size + 1, 3, none⟩ = some (O ι a.off) ∧ w'.cell? ⟨w.heap.size + 1 + 1, 0, none⟩ = some (O ι o.st) ∧ w'.cell? ⟨w.heap.size + 1 + 1, 1, none⟩ = some (σ p2 o.xs.length c2) ∧ w'.cell? ⟨w.heap.size + 1 + 1, 2, none⟩ = some (σ q2 o.sv.length d2) ∧ w'.cell? ⟨w.heap.size + 1 + 1, 3, none⟩ = some (O ι o.off))) (late := []) (by kernel_rfl) ?_ ?_
 rotate_left
 ·refine zl27 0 100 (γ #[σ sa ss.length cap]) rfl (.inl ⟨by kernel_rfl, ?_⟩) SA.out ?_
  ·rintro w' ⟨z0, z1, z2, z3, z4, z5, z6, z7, z8⟩
   go_simp
  simp only [aP, sT, sZ, sS]
  refine zl27 2 102 (γ #[O ι a.st, σ p1 a.xs.length c1, σ q1 a.sv.length d1, O ι a.off]) rfl (.inl ⟨by kernel_rfl, ?_⟩) SA.out ?_
  ·rintro w' ⟨z0, z1, z2, z3, z4, z5, z6, z7, z8⟩
   go_simp
  simp only [aP, sT, sZ, sS]
  refine zl27 4 104 (O ι ax) rfl (.inl ⟨by kernel_rfl, ?_⟩) SA.out ?_
  ·rintro w' ⟨z0, z1, z2, z3, z4, z5, z6, z7, z8⟩
   go_simp
  simp only [aP, sT, sZ, sS]
  refine zl27 5 105 (γ #[O ι o.st, σ p2 o.xs.length c2, σ q2 o.sv.length d2, O ι o.off]) rfl (.inl ⟨by kernel_rfl, ?_⟩) SA.out ?_
  ·rintro w' ⟨z0, z1, z2, z3, z4, z5, z6, z7, z8⟩
   go_simp
  simp only [aP, sT, sZ, sS]
  clear SA
  generalize w22.drew = t0 at XW ⊢
  refine zk1 (rs := [1, 8]) (by kernel_rfl) (by simp) (fun i hi => ?_)
  simp only [List.mem_cons, List.not_mem_nil, or_false] at hi
  rcases hi with rfl | rfl
  rotate_left
  ·refine ⟨_, rfl, fun K hK => ?_⟩
   go_simp
   refine hK.out _ _ (fun _ => HS14.out _ (Bel.tr XW.out ((Ext.refl t0).alloc _ _).bl)) ?_
   clear hK K
   try simp only [aP, sT, sZ, sS]
   have xx : Bel t0 (t0.alloc (χ #[O ι 0, σ none 0 0] 36)) := ((Ext.refl t0).alloc _ _).bl
   have AB : Hid (AtB (t0.alloc (χ #[O ι 0, σ none 0 0] 36)) t0.heap.size [O ι 0, σ none 0 0]) := fun j x hx => (zd t0 _ 36 _ rfl j).trans (by simpa using hx)
   have FB : Hid (∀ j, (t0.alloc (χ #[O ι 0, σ none 0 0] 36)).frozen? ⟨t0.heap.size, j, none⟩ = false) := fun j => ((Ext.refl t0).alloc _ _).unfrozen (Nat.le_refl _) j
   have HB : Hid (w22.heap.size ≤ t0.heap.size ∧ t0.heap.size < (t0.alloc (χ #[O ι 0, σ none 0 0] 36)).heap.size) := ⟨XW.out.size, by simp⟩
   replace XW := hide (Bel.tr XW.out xx)
   clear xx
   generalize (t0.alloc (χ #[O ι 0, σ none 0 0] 36)) = t0s at AB FB HB XW  ⊢
   generalize t0.heap.size = B at AB FB HB ⊢
   refine ze (i := 1) (by kernel_rfl) rfl (fun K hK => ?_)
   go_simp
   refine (zj2 (HV.out.keep (Bel.tr HX22.out.bl XW.out)) HL.out).mono ?_
   rintro e t1s ⟨g, rfl, hgl, rp, xx⟩
   replace XW := hide (Bel.tr XW.out xx.bl)
   replace FB : Hid (∀ j, _ = false) := fun j => (Below.frozen xx.bl (p := ⟨B, j, none⟩) HB.out.2).trans (FB.out j)
   replace AB := hide (AB.out.keep xx.bl)
   replace HB := hide (And.intro HB.out.1 (Nat.lt_of_lt_of_le HB.out.2 (Below.size xx.bl)))
   have U1 : Hid (SV t1s (σ (some ⟨g, 0, none⟩) ss.length ss.length) ss) := rp.sv rfl
   clear hgl rp xx
   refine hK.out _ _ (fun _ => HS14.out _ XW.out) ?_
   clear hK K
   try simp only [aP, sT, sZ, sS]
   refine ze (i := 3) (by kernel_rfl) rfl (fun K hK => ?_)
   go_simp
   refine (zr a.st (zk I1.out (Bel.tr HX22.out.bl XW.out)) (zk J1.out (Bel.tr HX22.out.bl XW.out)) a.off L1.out.1 L1.out.2).mono ?_
   rintro e t2s ⟨b1, e1, rfl, hg1, hg2, hg3, rx, rs, xx⟩
   replace XW := hide (Bel.tr XW.out xx.bl)
   replace U1 := hide (U1.out.keep xx.bl)
   replace FB : Hid (∀ j, _ = false) := fun j => (Below.frozen xx.bl (p := ⟨B, j, none⟩) HB.out.2).trans (FB.out j)
   replace AB := hide (AB.out.keep xx.bl)
   replace HB := hide (And.intro HB.out.1 (Nat.lt_of_lt_of_le HB.out.2 (Below.size xx.bl)))
   have U2 : Hid (AV t2s (γ #[O ι a.st, σ (some ⟨b1, 0, none⟩) a.xs.length a.xs.length, σ (some ⟨e1, 0, none⟩) a.sv.length a.sv.length, O ι a.off]) a) := ⟨_, _, _, _, rfl, rx.ints rfl, rs.ints rfl, L1.out⟩
   clear hg1 hg2 hg3 rx rs xx
   refine hK.out _ _ (fun _ => HS14.out _ XW.out) ?_
   clear hK K
   try simp only [aP, sT, sZ, sS]
   refine ze (i := 6) (by kernel_rfl) rfl (fun K hK => ?_)
   go_simp
   refine (zr o.st (zk I2.out (Bel.tr HX22.out.bl XW.out)) (zk J2.out (Bel.tr HX22.out.bl XW.out)) o.off L2.out.1 L2.out.2).mono ?_
   rintro e t3s ⟨b2, e2, rfl, hg1, hg2, hg3, rx, rs, xx⟩
   replace XW := hide (Bel.tr XW.out xx.bl)
   replace U1 := hide (U1.out.keep xx.bl)
   replace U2 := hide (U2.out.keep xx.bl)
   replace FB : Hid (∀ j, _ = false) := fun j => (Below.frozen xx.bl (p := ⟨B, j, none⟩) HB.out.2).trans (FB.out j)
   replace AB := hide (AB.out.keep xx.bl)
   replace HB := hide (And.intro HB.out.1 (Nat.lt_of_lt_of_le HB.out.2 (Below.size xx.bl)))
   have U3 : Hid (AV t3s (γ #[O ι o.st, σ (some ⟨b2, 0, none⟩) o.xs.length o.xs.length, σ (some ⟨e2, 0, none⟩) o.sv.length o.sv.length, O ι o.off]) o) := ⟨_, _, _, _, rfl, rx.ints rfl, rs.ints rfl, L2.out⟩
   clear hg1 hg2 hg3 rx rs xx
   refine hK.out _ _ (fun _ => HS14.out _ XW.out) ?_
   clear hK K
   try simp only [aP, sT, sZ, sS]
   refine ze (i := 7) (by kernel_rfl) rfl (fun K hK => ?_)
   go_simp
   refine (za4 ax U1.out HG.out HL.out U2.out U3.out).mono ?_
   intro e t4s hans
   obtain ⟨cc, u, ts, rfl, hok, hms, xx⟩ := hans
   obtain ⟨su, cu, rfl⟩ := hms.form
   have HOK := hide hok
   have MS := hide hms
   have hBW := HB.out.2
   replace XW := hide (Bel.tr XW.out xx)
   replace FB : Hid (∀ j, _ = false) := fun j => (Below.frozen xx (p := ⟨B, j, none⟩) HB.out.2).trans (FB.out j)
   replace AB := hide (AB.out.keep xx)
   replace HB := hide (And.intro HB.out.1 (Nat.lt_of_lt_of_le HB.out.2 (Below.size xx)))
   clear hok hms xx U1 U2 U3
   refine hK.out _ _ (fun _ => HS14.out _ XW.out) ?_
   clear hK K
   try simp only [aP, sT, sZ, sS]
   have q0 := AB.out 0 _ rfl
   have q1 := AB.out 1 _ rfl
   have f0 := FB.out 0
   have f1 := FB.out 1
   refine ze (i := 9) (by kernel_rfl) rfl (fun K hK => ?_)
   go_simp
   refine hK.out _ _ (fun _ => HS14.out _ ((XW.out.setCell (p := ⟨B, 0, none⟩) HB.out.1 _).setCell (p := ⟨B, 1, none⟩) HB.out.1 _)) ?_
   clear hK K
   try simp only [aP, sT, sZ, sS]
   refine zg (by kernel_rfl) ?_ _
   refine ⟨rfl, γ #[σ (some ⟨g, 0, none⟩) ss.length ss.length], γ #[O ι a.st, σ (some ⟨b1, 0, none⟩) a.xs.length a.xs.length, σ (some ⟨e1, 0, none⟩) a.sv.length a.sv.length, O ι a.off], γ #[O ι o.st, σ (some ⟨b2, 0, none⟩) o.xs.length o.xs.length, σ (some ⟨e2, 0, none⟩) o.sv.length o.sv.length, O ι o.off], γ #[O ι cc, σ su ts.length cu], B, cc, su, cu, ts, by kernel_rfl, AB.out.two _ _, HOK.out, ?_, (XW.out.setCell (p := ⟨B, 0, none⟩) HB.out.1 _).setCell (p := ⟨B, 1, none⟩) HB.out.1 _, by simp [World.setCell]; exact HB.out.2⟩
   exact ((MS.out.far hBW _).far hBW _).sv
  refine ⟨_, rfl, fun K hK => ?_⟩
  go_simp
  refine (zj2 (HV.out.keep (Bel.tr HX22.out.bl XW.out)) HL.out).mono ?_
  rintro e t1 ⟨g, rfl, hgl, rp, xx⟩
  replace XW := hide (Bel.tr XW.out xx.bl)
  have U1 : Hid (SV t1 (σ (some ⟨g, 0, none⟩) ss.length ss.length) ss) := rp.sv rfl
  clear hgl rp xx
  refine hK.out _ _ (fun _ => HS14.out _ XW.out) ?_
  clear hK K
  try simp only [aP, sT, sZ, sS]
  refine zk1 (rs := [3, 8]) (by kernel_rfl) (by simp) (fun i hi => ?_)
  simp only [List.mem_cons, List.not_mem_nil, or_false] at hi
  rcases hi with rfl | rfl
  rotate_left
  ·refine ⟨_, rfl, fun K hK => ?_⟩
   go_simp
   refine hK.out _ _ (fun _ => HS14.out _ (Bel.tr XW.out ((Ext.refl t1).alloc _ _).bl)) ?_
   clear hK K
   try simp only [aP, sT, sZ, sS]
   have xx : Bel t1 (t1.alloc (χ #[O ι 0, σ none 0 0] 36)) := ((Ext.refl t1).alloc _ _).bl
   have AB : Hid (AtB (t1.alloc (χ #[O ι 0, σ none 0 0] 36)) t1.heap.size [O ι 0, σ none 0 0]) := fun j x hx => (zd t1 _ 36 _ rfl j).trans (by simpa using hx)
   have FB : Hid (∀ j, (t1.alloc (χ #[O ι 0, σ none 0 0] 36)).frozen? ⟨t1.heap.size, j, none⟩ = false) := fun j => ((Ext.refl t1).alloc _ _).unfrozen (Nat.le_refl _) j
   have HB : Hid (w22.heap.size ≤ t1.heap.size ∧ t1.heap.size < (t1.alloc (χ #[O ι 0, σ none 0 0] 36)).heap.size) := ⟨XW.out.size, by simp⟩
   replace XW := hide (Bel.tr XW.out xx)
   replace U1 := hide (U1.out.keep xx)
   clear xx
   generalize (t1.alloc (χ #[O ι 0, σ none 0 0] 36)) = t1s at AB FB HB XW U1 ⊢
   generalize t1.heap.size = B at AB FB HB ⊢
   refine ze (i := 3) (by kernel_rfl) rfl (fun K hK => ?_)
   go_simp
   refine (zr a.st (zk I1.out (Bel.tr HX22.out.bl XW.out)) (zk J1.out (Bel.tr HX22.out.bl XW.out)) a.off L1.out.1 L1.out.2).mono ?_
   rintro e t2s ⟨b1, e1, rfl, hg1, hg2, hg3, rx, rs, xx⟩
   replace XW := hide (Bel.tr XW.out xx.bl)
   replace U1 := hide (U1.out.keep xx.bl)
   replace FB : Hid (∀ j, _ = false) := fun j => (Below.frozen xx.bl (p := ⟨B, j, none⟩) HB.out.2).trans (FB.out j)
   replace AB := hide (AB.out.keep xx.bl)
   replace HB := hide (And.intro HB.out.1 (Nat.lt_of_lt_of_le HB.out.2 (Below.size xx.bl)))
   have U2 : Hid (AV t2s (γ #[O ι a.st, σ (some ⟨b1, 0, none⟩) a.xs.length a.xs.length, σ (some ⟨e1, 0, none⟩) a.sv.length a.sv.length, O ι a.off]) a) := ⟨_, _, _, _, rfl, rx.ints rfl, rs.ints rfl, L1.out⟩
   clear hg1 hg2 hg3 rx rs xx
   refine hK.out _ _ (fun _ => HS14.out _ XW.out) ?_
   clear hK K
   try simp only [aP, sT, sZ, sS]
   refine ze (i := 6) (by kernel_rfl) rfl (fun K hK => ?_)
   go_simp
   refine (zr o.st (zk I2.out (Bel.tr HX22.out.bl XW.out)) (zk J2.out (Bel.tr HX22.out.bl XW.out)) o.off L2.out.1 L2.out.2).mono ?_
   rintro e t3s ⟨b2, e2, rfl, hg1, hg2, hg3, rx, rs, xx⟩
   replace XW := hide (Bel.tr XW.out xx.bl)
   replace U1 := hide (U1.out.keep xx.bl)
   replace U2 := hide (U2.out.keep xx.bl)
   replace FB : Hid (∀ j, _ = false) := fun j => (Below.frozen xx.bl (p := ⟨B, j, none⟩) HB.out.2).trans (FB.out j)
   replace AB := hide (AB.out.keep xx.bl)
   replace HB := hide (And.intro HB.out.1 (Nat.lt_of_lt_of_le HB.out.2 (Below.size xx.bl)))
   have U3 : Hid (AV t3s (γ #[O ι o.st, σ (some ⟨b2, 0, none⟩) o.xs.length o.xs.length, σ (some ⟨e2, 0, none⟩) o.sv.length o.sv.length, O ι o.off]) o) := ⟨_, _, _, _, rfl, rx.ints rfl, rs.ints rfl, L2.out⟩
   clear hg1 hg2 hg3 rx rs xx
   refine hK.out _ _ (fun _ => HS14.out _ XW.out) ?_
   clear hK K
   try simp only [aP, sT, sZ, sS]
   refine ze (i := 7) (by kernel_rfl) rfl (fun K hK => ?_)
   go_simp
   refine (za4 ax U1.out HG.out HL.out U2.out U3.out).mono ?_
   intro e t4s hans
   obtain ⟨cc, u, ts, rfl, hok, hms, xx⟩ := hans
   obtain ⟨su, cu, rfl⟩ := hms.form
   have HOK := hide hok
   have MS := hide hms
   have hBW := HB.out.2
   replace XW := hide (Bel.tr XW.out xx)
   replace FB : Hid (∀ j, _ = false) := fun j => (Below.frozen xx (p := ⟨B, j, none⟩) HB.out.2).trans (FB.out j)
   replace AB := hide (AB.out.keep xx)
   replace HB := hide (And.intro HB.out.1 (Nat.lt_of_lt_of_le HB.out.2 (Below.size xx)))
   clear hok hms xx U1 U2 U3
   refine hK.out _ _ (fun _ => HS14.out _ XW.out) ?_
   clear hK K
   try simp only [aP, sT, sZ, sS]
   have q0 := AB.out 0 _ rfl
   have q1 := AB.out 1 _ rfl
   have f0 := FB.out 0
   have f1 := FB.out 1
   refine ze (i := 9) (by kernel_rfl) rfl (fun K hK => ?_)
   go_simp
   refine hK.out _ _ (fun _ => HS14.out _ ((XW.out.setCell (p := ⟨B, 0, none⟩) HB.out.1 _).setCell (p := ⟨B, 1, none⟩) HB.out.1 _)) ?_
   clear hK K
   try simp only [aP, sT, sZ, sS]
   refine zg (by kernel_rfl) ?_ _
   refine ⟨rfl, γ #[σ (some ⟨g, 0, none⟩) ss.length ss.length], γ #[O ι a.st, σ (some ⟨b1, 0, none⟩) a.xs.length a.xs.length, σ (some ⟨e1, 0, none⟩) a.sv.length a.sv.length, O ι a.off], γ #[O ι o.st, σ (some ⟨b2, 0, none⟩) o.xs.length o.xs.length, σ (some ⟨e2, 0, none⟩) o.sv.length o.sv.length, O ι o.off], γ #[O ι cc, σ su ts.length cu], B, cc, su, cu, ts, by kernel_rfl, AB.out.two _ _, HOK.out, ?_, (XW.out.setCell (p := ⟨B, 0, none⟩) HB.out.1 _).setCell (p := ⟨B, 1, none⟩) HB.out.1 _, by simp [World.setCell]; exact HB.out.2⟩
   exact ((MS.out.far hBW _).far hBW _).sv
  refine ⟨_, rfl, fun K hK => ?_⟩
  go_simp
  refine (zr a.st (zk I1.out (Bel.tr HX22.out.bl XW.out)) (zk J1.out (Bel.tr HX22.out.bl XW.out)) a.off L1.out.1 L1.out.2).mono ?_
  rintro e t2 ⟨b1, e1, rfl, hg1, hg2, hg3, rx, rs, xx⟩
  replace XW := hide (Bel.tr XW.out xx.bl)
  replace U1 := hide (U1.out.keep xx.bl)
  have U2 : Hid (AV t2 (γ #[O ι a.st, σ (some ⟨b1, 0, none⟩) a.xs.length a.xs.length, σ (some ⟨e1, 0, none⟩) a.sv.length a.sv.length, O ι a.off]) a) := ⟨_, _, _, _, rfl, rx.ints rfl, rs.ints rfl, L1.out⟩
  clear hg1 hg2 hg3 rx rs xx
  refine hK.out _ _ (fun _ => HS14.out _ XW.out) ?_
  clear hK K
  try simp only [aP, sT, sZ, sS]
  refine zk1 (rs := [6, 8]) (by kernel_rfl) (by simp) (fun i hi => ?_)
  simp only [List.mem_cons, List.not_mem_nil, or_false] at hi
  rcases hi with rfl | rfl
  rotate_left
  ·refine ⟨_, rfl, fun K hK => ?_⟩
   go_simp
   refine hK.out _ _ (fun _ => HS14.out _ (Bel.tr XW.out ((Ext.refl t2).alloc _ _).bl)) ?_
   clear hK K
   try simp only [aP, sT, sZ, sS]
   have xx : Bel t2 (t2.alloc (χ #[O ι 0, σ none 0 0] 36)) := ((Ext.refl t2).alloc _ _).bl
   have AB : Hid (AtB (t2.alloc (χ #[O ι 0, σ none 0 0] 36)) t2.heap.size [O ι 0, σ none 0 0]) := fun j x hx => (zd t2 _ 36 _ rfl j).trans (by simpa using hx)
   have FB : Hid (∀ j, (t2.alloc (χ #[O ι 0, σ none 0 0] 36)).frozen? ⟨t2.heap.size, j, none⟩ = false) := fun j => ((Ext.refl t2).alloc _ _).unfrozen (Nat.le_refl _) j
   have HB : Hid (w22.heap.size ≤ t2.heap.size ∧ t2.heap.size < (t2.alloc (χ #[O ι 0, σ none 0 0] 36)).heap.size) := ⟨XW.out.size, by simp⟩
   replace XW := hide (Bel.tr XW.out xx)
   replace U1 := hide (U1.out.keep xx)
   replace U2 := hide (U2.out.keep xx)
   clear xx
   generalize (t2.alloc (χ #[O ι 0, σ none 0 0] 36)) = t2s at AB FB HB XW U1 U2 ⊢
   generalize t2.heap.size = B at AB FB HB ⊢
   refine ze (i := 6) (by kernel_rfl) rfl (fun K hK => ?_)
   go_simp
   refine (zr o.st (zk I2.out (Bel.tr HX22.out.bl XW.out)) (zk J2.out (Bel.tr HX22.out.bl XW.out)) o.off L2.out.1 L2.out.2).mono ?_
   rintro e t3s ⟨b2, e2, rfl, hg1, hg2, hg3, rx, rs, xx⟩
   replace XW := hide (Bel.tr XW.out xx.bl)
   replace U1 := hide (U1.out.keep xx.bl)
   replace U2 := hide (U2.out.keep xx.bl)
   replace FB : Hid (∀ j, _ = false) := fun j => (Below.frozen xx.bl (p := ⟨B, j, none⟩) HB.out.2).trans (FB.out j)
   replace AB := hide (AB.out.keep xx.bl)
   replace HB := hide (And.intro HB.out.1 (Nat.lt_of_lt_of_le HB.out.2 (Below.size xx.bl)))
   have U3 : Hid (AV t3s (γ #[O ι o.st, σ (some ⟨b2, 0, none⟩) o.xs.length o.xs.length, σ (some ⟨e2, 0, none⟩) o.sv.length o.sv.length, O ι o.off]) o) := ⟨_, _, _, _, rfl, rx.ints rfl, rs.ints rfl, L2.out⟩
   clear hg1 hg2 hg3 rx rs xx
   refine hK.out _ _ (fun _ => HS14.out _ XW.out) ?_
   clear hK K
   try simp only [aP, sT, sZ, sS]
   refine ze (i := 7) (by kernel_rfl) rfl (fun K hK => ?_)
   go_simp
   refine (za4 ax U1.out HG.out HL.out U2.out U3.out).mono ?_
   intro e t4s hans
   obtain ⟨cc, u, ts, rfl, hok, hms, xx⟩ := hans
   obtain ⟨su, cu, rfl⟩ := hms.form
   have HOK := hide hok
   have MS := hide hms
   have hBW := HB.out.2
   replace XW := hide (Bel.tr XW.out xx)
   replace FB : Hid (∀ j, _ = false) := fun j => (Below.frozen xx (p := ⟨B, j, none⟩) HB.out.2).trans (FB.out j)
   replace AB := hide (AB.out.keep xx)
   replace HB := hide (And.intro HB.out.1 (Nat.lt_of_lt_of_le HB.out.2 (Below.size xx)))
   clear hok hms xx U1 U2 U3
   refine hK.out _ _ (fun _ => HS14.out _ XW.out) ?_
   clear hK K
   try simp only [aP, sT, sZ, sS]
   have q0 := AB.out 0 _ rfl
   have q1 := AB.out 1 _ rfl
   have f0 := FB.out 0
   have f1 := FB.out 1
   refine ze (i := 9) (by kernel_rfl) rfl (fun K hK => ?_)
   go_simp
   refine hK.out _ _ (fun _ => HS14.out _ ((XW.out.setCell (p := ⟨B, 0, none⟩) HB.out.1 _).setCell (p := ⟨B, 1, none⟩) HB.out.1 _)) ?_
   clear hK K
   try simp only [aP, sT, sZ, sS]
   refine zg (by kernel_rfl) ?_ _
   refine ⟨rfl, γ #[σ (some ⟨g, 0, none⟩) ss.length ss.length], γ #[O ι a.st, σ (some ⟨b1, 0, none⟩) a.xs.length a.xs.length, σ (some ⟨e1, 0, none⟩) a.sv.length a.sv.length, O ι a.off], γ #[O ι o.st, σ (some ⟨b2, 0, none⟩) o.xs.length o.xs.length, σ (some ⟨e2, 0, none⟩) o.sv.length o.sv.length, O ι o.off], γ #[O ι cc, σ su ts.length cu], B, cc, su, cu, ts, by kernel_rfl, AB.out.two _ _, HOK.out, ?_, (XW.out.setCell (p := ⟨B, 0, none⟩) HB.out.1 _).setCell (p := ⟨B, 1, none⟩) HB.out.1 _, by simp [World.setCell]; exact HB.out.2⟩
   exact ((MS.out.far hBW _).far hBW _).sv
  refine ⟨_, rfl, fun K hK => ?_⟩
  go_simp
  refine (zr o.st (zk I2.out (Bel.tr HX22.out.bl XW.out)) (zk J2.out (Bel.tr HX22.out.bl XW.out)) o.off L2.out.1 L2.out.2).mono ?_
  rintro e t3 ⟨b2, e2, rfl, hg1, hg2, hg3, rx, rs, xx⟩
  replace XW := hide (Bel.tr XW.out xx.bl)
  replace U1 := hide (U1.out.keep xx.bl)
  replace U2 := hide (U2.out.keep xx.bl)
  have U3 : Hid (AV t3 (γ #[O ι o.st, σ (some ⟨b2, 0, none⟩) o.xs.length o.xs.length, σ (some ⟨e2, 0, none⟩) o.sv.length o.sv.length, O ι o.off]) o) := ⟨_, _, _, _, rfl, rx.ints rfl, rs.ints rfl, L2.out⟩
  clear hg1 hg2 hg3 rx rs xx
  refine hK.out _ _ (fun _ => HS14.out _ XW.out) ?_
  clear hK K
  try simp only [aP, sT, sZ, sS]
  refine zk1 (rs := [7, 8]) (by kernel_rfl) (by simp) (fun i hi => ?_)
  simp only [List.mem_cons, List.not_mem_nil, or_false] at hi
  rcases hi with rfl | rfl
  rotate_left
  ·refine ⟨_, rfl, fun K hK => ?_⟩
   go_simp
   refine hK.out _ _ (fun _ => HS14.out _ (Bel.tr XW.out ((Ext.refl t3).alloc _ _).bl)) ?_
   clear hK K
   try simp only [aP, sT, sZ, sS]
   have xx : Bel t3 (t3.alloc (χ #[O ι 0, σ none 0 0] 36)) := ((Ext.refl t3).alloc _ _).bl
   have AB : Hid (AtB (t3.alloc (χ #[O ι 0, σ none 0 0] 36)) t3.heap.size [O ι 0, σ none 0 0]) := fun j x hx => (zd t3 _ 36 _ rfl j).trans (by simpa using hx)
   have FB : Hid (∀ j, (t3.alloc (χ #[O ι 0, σ none 0 0] 36)).frozen? ⟨t3.heap.size, j, none⟩ = false) := fun j => ((Ext.refl t3).alloc _ _).unfrozen (Nat.le_refl _) j
   have HB : Hid (w22.heap.size ≤ t3.heap.size ∧ t3.heap.size < (t3.alloc (χ #[O ι 0, σ none 0 0] 36)).heap.size) := ⟨XW.out.size, by simp⟩
   replace XW := hide (Bel.tr XW.out xx)
   replace U1 := hide (U1.out.keep xx)
   replace U2 := hide (U2.out.keep xx)
   replace U3 := hide (U3.out.keep xx)
   clear xx
   generalize (t3.alloc (χ #[O ι 0, σ none 0 0] 36)) = t3s at AB FB HB XW U1 U2 U3 ⊢
   generalize t3.heap.size = B at AB FB HB ⊢
   refine ze (i := 7) (by kernel_rfl) rfl (fun K hK => ?_)
   go_simp
   refine (za4 ax U1.out HG.out HL.out U2.out U3.out).mono ?_
   intro e t4s hans
   obtain ⟨cc, u, ts, rfl, hok, hms, xx⟩ := hans
   obtain ⟨su, cu, rfl⟩ := hms.form
   have HOK := hide hok
   have MS := hide hms
   have hBW := HB.out.2
   replace XW := hide (Bel.tr XW.out xx)
   replace FB : Hid (∀ j, _ = false) := fun j => (Below.frozen xx (p := ⟨B, j, none⟩) HB.out.2).trans (FB.out j)
   replace AB := hide (AB.out.keep xx)
   replace HB := hide (And.intro HB.out.1 (Nat.lt_of_lt_of_le HB.out.2 (Below.size xx)))
   clear hok hms xx U1 U2 U3
   refine hK.out _ _ (fun _ => HS14.out _ XW.out) ?_
   clear hK K
   try simp only [aP, sT, sZ, sS]
   have q0 := AB.out 0 _ rfl
   have q1 := AB.out 1 _ rfl
   have f0 := FB.out 0
   have f1 := FB.out 1
   refine ze (i := 9) (by kernel_rfl) rfl (fun K hK => ?_)
   go_simp
   refine hK.out _ _ (fun _ => HS14.out _ ((XW.out.setCell (p := ⟨B, 0, none⟩) HB.out.1 _).setCell (p := ⟨B, 1, none⟩) HB.out.1 _)) ?_
   clear hK K
   try simp only [aP, sT, sZ, sS]
   refine zg (by kernel_rfl) ?_ _
   refine ⟨rfl, γ #[σ (some ⟨g, 0, none⟩) ss.length ss.length], γ #[O ι a.st, σ (some ⟨b1, 0, none⟩) a.xs.length a.xs.length, σ (some ⟨e1, 0, none⟩) a.sv.length a.sv.length, O ι a.off], γ #[O ι o.st, σ (some ⟨b2, 0, none⟩) o.xs.length o.xs.length, σ (some ⟨e2, 0, none⟩) o.sv.length o.sv.length, O ι o.off], γ #[O ι cc, σ su ts.length cu], B, cc, su, cu, ts, by kernel_rfl, AB.out.two _ _, HOK.out, ?_, (XW.out.setCell (p := ⟨B, 0, none⟩) HB.out.1 _).setCell (p := ⟨B, 1, none⟩) HB.out.1 _, by simp [World.setCell]; exact HB.out.2⟩
   exact ((MS.out.far hBW _).far hBW _).sv
  refine ⟨_, rfl, fun K hK => ?_⟩
  go_simp
  refine (za4 ax U1.out HG.out HL.out U2.out U3.out).mono ?_
  intro e t4 hans
  obtain ⟨cc, u, ts, rfl, hok, hms, xx⟩ := hans
  obtain ⟨su, cu, rfl⟩ := hms.form
  have HOK := hide hok
  have MS := hide hms
  replace XW := hide (Bel.tr XW.out xx)
  clear hok hms xx U1 U2 U3
  refine hK.out _ _ (fun _ => HS14.out _ XW.out) ?_
  clear hK K
  try simp only [aP, sT, sZ, sS]
  refine ze (i := 8) (by kernel_rfl) rfl (fun K hK => ?_)
  go_simp
  refine hK.out _ _ (fun _ => HS14.out _ (Bel.tr XW.out ((Ext.refl t4).alloc _ _).bl)) ?_
  clear hK K
  try simp only [aP, sT, sZ, sS]
  have xx : Bel t4 (t4.alloc (χ #[O ι 0, σ none 0 0] 36)) := ((Ext.refl t4).alloc _ _).bl
  have AB : Hid (AtB (t4.alloc (χ #[O ι 0, σ none 0 0] 36)) t4.heap.size [O ι 0, σ none 0 0]) := fun j x hx => (zd t4 _ 36 _ rfl j).trans (by simpa using hx)
  have FB : Hid (∀ j, (t4.alloc (χ #[O ι 0, σ none 0 0] 36)).frozen? ⟨t4.heap.size, j, none⟩ = false) := fun j => ((Ext.refl t4).alloc _ _).unfrozen (Nat.le_refl _) j
  have HB : Hid (w22.heap.size ≤ t4.heap.size ∧ t4.heap.size < (t4.alloc (χ #[O ι 0, σ none 0 0] 36)).heap.size) := ⟨XW.out.size, by simp⟩
  replace XW := hide (Bel.tr XW.out xx)
  have XL := hide xx
  have HBL : Hid (t4.heap.size ≤ t4.heap.size) := Nat.le_refl _
  clear xx
  generalize (t4.alloc (χ #[O ι 0, σ none 0 0] 36)) = t4s at AB FB HB XW XL ⊢
  obtain ⟨B, hBe⟩ : ∃ B, B = t4.heap.size := ⟨_, rfl⟩
  rw [← hBe] at AB FB HB ⊢
  have HBe := hide hBe
  clear hBe HBL
  have q0 := AB.out 0 _ rfl
  have q1 := AB.out 1 _ rfl
  have f0 := FB.out 0
  have f1 := FB.out 1
  refine ze (i := 9) (by kernel_rfl) rfl (fun K hK => ?_)
  go_simp
  refine hK.out _ _ (fun _ => HS14.out _ ((XW.out.setCell (p := ⟨B, 0, none⟩) HB.out.1 _).setCell (p := ⟨B, 1, none⟩) HB.out.1 _)) ?_
  clear hK K
  try simp only [aP, sT, sZ, sS]
  refine zg (by kernel_rfl) ?_ _
  refine ⟨rfl, γ #[σ (some ⟨g, 0, none⟩) ss.length ss.length], γ #[O ι a.st, σ (some ⟨b1, 0, none⟩) a.xs.length a.xs.length, σ (some ⟨e1, 0, none⟩) a.sv.length a.sv.length, O ι a.off], γ #[O ι o.st, σ (some ⟨b2, 0, none⟩) o.xs.length o.xs.length, σ (some ⟨e2, 0, none⟩) o.sv.length o.sv.length, O ι o.off], γ #[O ι cc, σ su ts.length cu], B, cc, su, cu, ts, by kernel_rfl, AB.out.two _ _, HOK.out, ?_, (XW.out.setCell (p := ⟨B, 0, none⟩) HB.out.1 _).setCell (p := ⟨B, 1, none⟩) HB.out.1 _, by simp [World.setCell]; exact HB.out.2⟩
  exact MS.out.sv.keep ((XL.out.setCell (p := ⟨B, 0, none⟩) (by show _ ≤ B; have := HBe.out; omega) _).setCell (p := ⟨B, 1, none⟩) (by show _ ≤ B; have := HBe.out; omega) _)
 rintro a' w23 ⟨y1_1, y2_1, y3_1, y4_1, B1, cc1, su1, cu1, ts1, rfl, hab, hok, hsv, b1, hbs⟩
 have HX23 := hide (HX22.out.keep b1)
 have RB1 := hide hab
 have RO1 := hide hok
 have RV1 := hide hsv
 have RS1 := hide hbs
 have BB1 := hide b1
 clear hab hok hsv b1 hbs HS14 SA XW
 simp only [aP, sT, sZ, sS]
 obtain ⟨hcc, hsm⟩ := ArgOk.same RO1.out RO0.out
 have hcc := hcc.symm
 subst hcc
 have HS2 := hide hsm
 have G1 := hide (RO1.out.good HG.out)
 have F1 := hide (RO1.out.few HL.out)
 have n0 : (_ : Option Value) = some (O ι cc0) := RB1.out 0 _ rfl
 have n1 : (_ : Option Value) = some (σ su1 ts1.length cu1) := RB1.out 1 _ rfl
 replace D6 := hide (Bel.tr D6.out BB1.out)
 have r0 : (_ : Option Value) = some (O ι cc0) := (RB0.out.keep D6.out) 0 _ rfl
 have r1 : (_ : Option Value) = some (σ su0 ts0.length cu0) := (RB0.out.keep D6.out) 1 _ rfl
 clear hsm
 go_wp2_with fail
 refine (zc10 cc0 RV1.out (RV0.out.keep D6.out) HS2.out G1.out GT0.out F1.out).mono ?_
 rintro e w24 ⟨rfl, xx⟩
 have XE := hide (Bel.tr HX23.out.bl xx.bl)
 clear n0 n1 r0 r1 xx
 go_wp2
 go_ret
 exact ⟨rfl, XE.out⟩
end Go.Proofs.YtfhcpicddegblaaGreat
