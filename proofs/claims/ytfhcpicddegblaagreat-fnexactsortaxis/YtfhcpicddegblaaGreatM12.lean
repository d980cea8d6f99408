import Derived.Test.YtfhcpicddegblaaGreatM7
import Derived.Test.YtfhcpicddegblaaGreatM11
import Derived.Test.YtfhcpicddegblaaGreatM6
import Derived.Test.YtfhcpicddegblaaGreatM5
import Derived.Deep.AppendLies
import Derived.Deep.RegionHeld3
import Derived.Test.YtfhcpicddegblaaGreatM8
import Derived.Test.YtfhcpicddegblaaGreatM10
set_option linter.unusedSimpArgs false
set_option linter.unusedVariables false
set_option maxRecDepth 100000
set_option maxHeartbeats 8000000
namespace Go.Proofs.YtfhcpicddegblaaGreat
section
open Go.ChangeShapes Go.RowKit FL
theorem zj13 {w : World} {v vS vT : Value} {ss : List St} {xs sv : List Int} (h : SV w v ss) (m : Nat) (off : Int) (hm : m < ss.length) {fr to : Int} (h8 : (ss.getD m s0).1 = to) (hcc : castL fr to 1 = true) (hS : Ints w vS xs) (hT : Ints w vT sv) (lx : xs.length ≤ 1048576) (ls : sv.length ≤ 1048576) (hw : WrV xs sv off) :
  Calls Tryz.prog 71 #[.agg #[v], .int .i64 fr, .agg #[.int .i64 m, vS, vT, .int .i64 off]] w fun e w' => e = .returned (.int .i64 0) ∧ Bel w w' := by
 obtain ⟨sa, cap, rfl, hx⟩ := h
 have h : SV w (.slice sa ss.length cap) ss := ⟨sa, cap, rfl, hx⟩
 obtain ⟨s1, d1, rfl, hS'⟩ := hS
 obtain ⟨s2, d2, rfl, hT'⟩ := hT
 have hS : Ints w (.slice s1 xs.length d1) xs := ⟨s1, d1, rfl, hS'⟩
 have hT : Ints w (.slice s2 sv.length d2) sv := ⟨s2, d2, rfl, hT'⟩
 have x0 : Ext w ((w.alloc (.cells #[.slice sa ss.length cap] 34)).alloc (.cells #[.int .i64 m, .slice s1 xs.length d1, .slice s2 sv.length d2, .int .i64 off] 41)) := ((Ext.refl w).alloc _ _).alloc _ _
 have xa : Ext (w.alloc (.cells #[.slice sa ss.length cap] 34)) ((w.alloc (.cells #[.slice sa ss.length cap] 34)).alloc (.cells #[.int .i64 m, .slice s1 xs.length d1, .slice s2 sv.length d2, .int .i64 off] 41)) := (Ext.refl _).alloc _ _
 have k0 := xa.box (ze w #[.slice sa ss.length cap] 34 w.heap.size rfl 0)
 have n1 := fun j => ze (w.alloc (.cells #[.slice sa ss.length cap] 34)) #[.int .i64 m, .slice s1 xs.length d1, .slice s2 sv.length d2, .int .i64 off] 41 (w.heap.size + 1) (by simp) j
 have a0 := n1 0
 have a1 := n1 1
 have a2 := n1 2
 have a3 := n1 3
 simp only [List.getElem?_toArray, List.getElem?_cons_zero, List.getElem?_cons_succ] at k0 a0 a1 a2 a3
 have HWR := hide (sWR_any (hS.ext x0) (hT.ext x0) off lx ls)
 rw [dcWrV_t hw] at HWR
 clear hw
 have X0 := hide x0
 have HH := hide h
 clear n1 xa x0 hx hS hT hS' hT' h
 go_enter Tryz.func71, Tryz.ntmps71
 go_wp2_with fail
 generalize ((w.alloc (.cells #[.slice sa ss.length cap] 34)).alloc (.cells #[.int .i64 m, .slice s1 xs.length d1, .slice s2 sv.length d2, .int .i64 off] 41)) = W0 at *
 refine HWR.out.mono ?_
 rintro e w1 ⟨rfl, b1⟩
 have k0 := Bel.box b1 k0
 have a0 := Bel.box b1 a0
 have a1 := Bel.box b1 a1
 have a2 := Bel.box b1 a2
 have a3 := Bel.box b1 a3
 have B1 := hide (Bel.tr X0.out.bl b1)
 have HTY := hide (za4 (vS := .slice s1 xs.length d1) (vT := .slice s2 sv.length d2) (HH.out.keep B1.out) (m : Int) off (Int.natCast_nonneg _) (by omega))
 rw [Int.toNat_natCast, h8] at HTY
 clear b1 HWR h8
 go_wp2_with fail
 refine HTY.out.mono ?_
 rintro e w2 ⟨rfl, x2⟩
 go_wp2_with (go_at_call 108; refine (zn3 _ _ _ _).mono ?_; rintro e w' ⟨rfl, rfl⟩; rw [hcc])
 go_ret
 exact ⟨rfl, Bel.tr B1.out x2.bl⟩
theorem HSp.putc {w w1 : World} {lo g m p j : Nat} {x : C3} {cb : Nat → Nat} {ss : List St} {L : List Int} {X : List C3} (h : HSp w lo g cb (putT ss m L X j)) (hm : m < ss.length) (hp : p < (ss.getD m s0).2.length) (hL : L.getD j 0 = (p : Int)) (x1 : Ext w w1) (hx : x = X.getD j k0) :
  HSp (setC w1 (cb m) (p * 3) x) lo g cb (putT ss m L X (j + 1)) := by
 have h1 : HSp w1 lo g cb (putT ss m L X j) := h.keep (fun b _ hb => x1.bl.block b hb)
 clear h x1
 have hmm : (putT ss m L X j).getD m s0 = ((ss.getD m s0).1, putC (ss.getD m s0).2 L X j) := by unfold putT; rw [zr2, if_pos ⟨rfl, hm⟩]
 have hmn : (putT ss m L X (j + 1)).getD m s0 = ((ss.getD m s0).1, (putC (ss.getD m s0).2 L X j).set p x) := by
  unfold putT
  rw [zr2, if_pos ⟨rfl, hm⟩, putC, hL, hx, Int.toNat_natCast]
 have hnm : ∀ i, i ≠ m → (putT ss m L X (j + 1)).getD i s0 = (putT ss m L X j).getD i s0 := fun i hi => ((zb1 ss m _ X (j + 1) i).2.2 hi).trans ((zb1 ss m L X j i).2.2 hi).symm
 have hnil : ∀ i, ((putT ss m L X (j + 1)).getD i s0).2 ≠ [] ↔ ((putT ss m L X j).getD i s0).2 ≠ [] := fun i => by
  rw [ne_eq, ne_eq, zf1, zf1, (zb1 ss m _ X (j + 1) i).2.1, (zb1 ss m L X j i).2.1]
 have hlen : ∀ i, ((putT ss m L X (j + 1)).getD i s0).2.length = ((putT ss m L X j).getD i s0).2.length := fun i => by rw [(zb1 ss m _ X (j + 1) i).2.1, (zb1 ss m L X j i).2.1]
 have hnem : ((putT ss m L X j).getD m s0).2 ≠ [] := fun e => by rw [zf1, (zb1 ss m L X j m).2.1] at e; omega
 have hml : m < (putT ss m L X j).length := by rw [zm]; exact hm
 have hgm := h1.ne m hml hnem
 have hcb : ∀ i, i < ss.length → ((putT ss m L X j).getD i s0).2 ≠ [] → i ≠ m → cb i ≠ cb m := fun i hi hi2 him e => by
  rcases Nat.lt_or_gt_of_ne him with q | q
  ·exact h1.nd i m q hml hi2 hnem e
  ·exact h1.nd m i q (by rw [zm]; exact hi) hnem hi2 e.symm
 refine ⟨fun i hi => ?_, fun i hi => ?_, fun i hi hne2 => ?_, fun i hi hne2 o => ?_, h1.lo_g, fun i hi hne2 => ?_, fun i i' hii hi' hn1 hn2 => ?_⟩
 ·rw [zm] at hi
  rw [(zb1 ss m _ X (j + 1) i).1, ← (zb1 ss m L X j i).1]
  exact zn (Ne.symm hgm.1) (h1.dt i (by rw [zm]; exact hi))
 ·rw [zm] at hi
  obtain ⟨sa, cap, q1, q2⟩ := h1.sl i (by rw [zm]; exact hi)
  refine ⟨sa, cap, ?_, ?_⟩
  ·rw [hlen]; exact zn (Ne.symm hgm.1) q1
  ·rcases q2 with q2 | q2
   ·exact Or.inl (by rw [zf1, hlen]; rw [zf1] at q2; exact q2)
   ·exact Or.inr q2
 ·rw [zm] at hi
  rw [hnil] at hne2
  have hr := h1.row i (by rw [zm]; exact hi) hne2
  by_cases e : i = m
  ·subst e
   rw [hmn]
   rw [hmm] at hr
   have q := hr.set p (by rw [zk1]; exact hp) x
   simp only [Nat.zero_add] at q
   exact q
  ·rw [hnm i e]
   have hc := hcb i hi hne2 e
   exact fun z hz => ⟨zn hc (hr z hz).1, zn hc (hr z hz).2.1, zn hc (hr z hz).2.2⟩
 ·rw [zm] at hi
  rw [hnil] at hne2
  rw [zp12]
  exact h1.fzr i (by rw [zm]; exact hi) hne2 o
 ·rw [zm] at hi
  rw [hnil] at hne2
  exact h1.ne i (by rw [zm]; exact hi) hne2
 ·rw [zm] at hi'
  rw [hnil] at hn1 hn2
  exact h1.nd i i' hii (by rw [zm]; exact hi') hn1 hn2
theorem za11 {w : World} {v vS vT : Value} {ss : List St} {xs sv : List Int} {sx : Option Addr} {cx : Nat} {X : List C3} {fr to : Int} {Rl : Nat → C3 → Prop} (h : SV w v ss) (hl : SL ss 1048576) (m : Nat) (off : Int) (hm : m < ss.length) (h8 : (ss.getD m s0).1 = to) (hcc : castL fr to 1 = true) (hS : Ints w vS xs) (hT : Ints w vT sv) (lx : xs.length ≤ 1048576) (ls : sv.length ≤ 1048576) (hw : WrV xs sv off)
  (hin : ∀ p ∈ offsL xs sv off, p < ((ss.getD m s0).2.length : Int)) (hX : CV w (.slice sx X.length cx) X) (hcv : ∀ j, j < X.length → ∀ W, Calls Tryz.prog 73 #[.int .i64 fr, .int .i64 to, cellV (X.getD j k0)] W fun e W' => ∃ c, e = .returned (cellV c) ∧ Rl j c ∧ Ext W W') (hXl : (offsL xs sv off).length ≤ X.length) (hX4 : X.length ≤ 4096) :
  Calls Tryz.prog 31 #[.agg #[v], .int .i64 fr, .slice sx X.length cx, .agg #[.int .i64 m, vS, vT, .int .i64 off]] w fun e w' => ∃ g cap cb Z, e = .returned (.agg #[.int .i64 0, .slice (some ⟨g, 0, none⟩) ss.length cap]) ∧ Z.length = (offsL xs sv off).length ∧ (∀ j, j < Z.length → Rl j (Z.getD j k0)) ∧ HSp w' w.heap.size g cb (putT ss m (offsL xs sv off) Z (offsL xs sv off).length) ∧ Bel w w' := by
 obtain ⟨sa, cap, rfl, hx⟩ := h
 have h : SV w (.slice sa ss.length cap) ss := ⟨sa, cap, rfl, hx⟩
 obtain ⟨s1, d1, rfl, hS'⟩ := hS
 obtain ⟨s2, d2, rfl, hT'⟩ := hT
 have hS : Ints w (.slice s1 xs.length d1) xs := ⟨s1, d1, rfl, hS'⟩
 have hT : Ints w (.slice s2 sv.length d2) sv := ⟨s2, d2, rfl, hT'⟩
 have x0 : Ext w (((w.alloc (.cells #[.slice sa ss.length cap] 34)).alloc (.cells #[.int .i64 m, .slice s1 xs.length d1, .slice s2 sv.length d2, .int .i64 off] 41)).alloc (.cells #[.int .i64 0, .slice none 0 0] 36)) := (((Ext.refl w).alloc _ _).alloc _ _).alloc _ _
 have xa : Ext (w.alloc (.cells #[.slice sa ss.length cap] 34)) (((w.alloc (.cells #[.slice sa ss.length cap] 34)).alloc (.cells #[.int .i64 m, .slice s1 xs.length d1, .slice s2 sv.length d2, .int .i64 off] 41)).alloc (.cells #[.int .i64 0, .slice none 0 0] 36)) := ((Ext.refl _).alloc _ _).alloc _ _
 have xb : Ext ((w.alloc (.cells #[.slice sa ss.length cap] 34)).alloc (.cells #[.int .i64 m, .slice s1 xs.length d1, .slice s2 sv.length d2, .int .i64 off] 41)) (((w.alloc (.cells #[.slice sa ss.length cap] 34)).alloc (.cells #[.int .i64 m, .slice s1 xs.length d1, .slice s2 sv.length d2, .int .i64 off] 41)).alloc (.cells #[.int .i64 0, .slice none 0 0] 36)) := (Ext.refl _).alloc _ _
 have kk0 := xa.box (ze w #[.slice sa ss.length cap] 34 w.heap.size rfl 0)
 have n1 := fun j => ze (w.alloc (.cells #[.slice sa ss.length cap] 34)) #[.int .i64 m, .slice s1 xs.length d1, .slice s2 sv.length d2, .int .i64 off] 41 (w.heap.size + 1) (by simp) j
 have a0 := xb.box (n1 0)
 have a1 := xb.box (n1 1)
 have a2 := xb.box (n1 2)
 have a3 := xb.box (n1 3)
 have n2 := fun j => ze ((w.alloc (.cells #[.slice sa ss.length cap] 34)).alloc (.cells #[.int .i64 m, .slice s1 xs.length d1, .slice s2 sv.length d2, .int .i64 off] 41)) #[.int .i64 0, .slice none 0 0] 36 (w.heap.size + 2) (by simp) j
 have r0 := n2 0
 have r1 := n2 1
 simp only [List.getElem?_toArray, List.getElem?_cons_zero, List.getElem?_cons_succ] at kk0 a0 a1 a2 a3 r0 r1
 have hs3 : ((((w.alloc (.cells #[.slice sa ss.length cap] 34)).alloc (.cells #[.int .i64 m, .slice s1 xs.length d1, .slice s2 sv.length d2, .int .i64 off] 41)).alloc (.cells #[.int .i64 0, .slice none 0 0] 36))).heap.size = w.heap.size + 3 := by simp
 have HLA := hide (zj13 (h.keep x0.bl) m off hm h8 hcc (hS.ext x0) (hT.ext x0) lx ls hw)
 have HCP := hide (fun W (b : Bel w W) => l4Copy_any (h.keep b) hl (by omega))
 have HOF := hide (fun W (b : Bel w W) => zj2 (zp hS b) (zp hT b) off hw.1)
 have HTY := hide (fun W (b : Bel w W) => za4 (vS := .slice s1 xs.length d1) (vT := .slice s2 sv.length d2) (h.keep b) (m : Int) off (Int.natCast_nonneg _) (by omega))
 have hpos : Hid (∀ p ∈ offsL xs sv off, 0 ≤ p) := fun p hp => (zp3 hw.1 p hp).1
 rw [Int.toNat_natCast, h8] at HTY
 have FR : Hid (∀ o, ((((w.alloc (.cells #[.slice sa ss.length cap] 34)).alloc (.cells #[.int .i64 m, .slice s1 xs.length d1, .slice s2 sv.length d2, .int .i64 off] 41)).alloc (.cells #[.int .i64 0, .slice none 0 0] 36))).frozen? ⟨w.heap.size + 2, o, none⟩ = false) := fun o => x0.unfrozen (by omega) o
 have X0 := hide x0.bl
 have HX := hide hX
 have HCV0 := hide hcv
 have Hin := hide hin
 have hol := zr4 hw.1
 have k0H := hide kk0
 have a0H := hide a0
 have a1H := hide a1
 have a2H := hide a2
 have a3H := hide a3
 have r0H := hide r0
 have r1H := hide r1
 clear n1 n2 xa xb x0 hx hS hT hS' hT' h hX hw h8 hin hl hcv hcc
 generalize offsL xs sv off = L at *
 go_enter Tryz.func31, Tryz.ntmps31
 go_wp2_with fail
 generalize (((w.alloc (.cells #[.slice sa ss.length cap] 34)).alloc (.cells #[.int .i64 m, .slice s1 xs.length d1, .slice s2 sv.length d2, .int .i64 off] 41)).alloc (.cells #[.int .i64 0, .slice none 0 0] 36)) = W0 at *
 refine HLA.out.mono ?_
 rintro e w1 ⟨rfl, b1⟩
 have kk0 := Bel.box b1 kk0
 have a0 := Bel.box b1 a0
 have a1 := Bel.box b1 a1
 have a2 := Bel.box b1 a2
 have a3 := Bel.box b1 a3
 have B1 := hide (Bel.tr X0.out b1)
 have B01 := hide b1
 clear b1 HLA
 go_wp2_with fail
 refine (HCP.out _ B1.out).mono ?_
 rintro e w2 ⟨g, cg, cb, rfl, hO, b2⟩
 have B2 := hide (Bel.tr B01.out b2)
 have x3 : Ext w2 (w2.alloc (.cells #[.slice (some ⟨g, 0, none⟩) ss.length cg] 34)) := (Ext.refl _).alloc _ _
 have B3 := hide (Bel.tr B2.out x3.bl)
 have N3 := hide (ze w2 #[.slice (some ⟨g, 0, none⟩) ss.length cg] 34 w2.heap.size rfl 0)
 have HO3 := hide (hO.keep (fun b _ hb => x3.bl.block b hb))
 have a0 := Bel.box B3.out a0H.out
 have a1 := Bel.box B3.out a1H.out
 have a2 := Bel.box B3.out a2H.out
 have a3 := Bel.box B3.out a3H.out
 have hlo := hO.lo_g
 have hw01 := B01.out.size
 have hw12 := b2.size
 have hb12 := hide b2
 have hcbw : Hid ((ss.getD m s0).2 ≠ [] → cb m < w2.heap.size) := fun hne => zj (hO.row m hm hne 0 (List.length_pos_iff.2 hne)).1
 have hb13 : Hid (Bel w1 (w2.alloc (.cells #[.slice (some ⟨g, 0, none⟩) ss.length cg] 34))) := Bel.tr b2 x3.bl
 have x3' := hide x3
 clear hO b2 x3 HCP kk0
 go_wp2_with fail
 have B4w := hide (Bel.tr B1.out (show Bel w1 _ from Below.trans (show Bel w1 w2 from hb12.out) (x3'.out.bl.mono hb12.out.size)))
 refine (HOF.out _ B4w.out).mono ?_
 rintro e w4 ⟨sl, cl, rfl, hOwn, b4⟩
 have hW4 : Bel w1 w4 := Below.trans hb13.out (Below.mono b4 hb13.out.size)
 have HW4 := hide hW4
 have N4 := hide (Bel.box b4 N3.out)
 have HO4 := hide (HO3.out.keep (fun b _ hb => b4.block b hb))
 have HOwn := hide hOwn
 have hs34 : w2.heap.size + 1 ≤ w4.heap.size := by have := b4.size; rw [World.size_alloc] at this; exact this
 have HSZ : Hid ((w2.alloc (.cells #[.slice (some ⟨g, 0, none⟩) ss.length cg] 34)).heap.size = w2.heap.size + 1) := by show _ = _; simp
 rw [HSZ.out] at HOwn
 clear hOwn b4 hW4 a0 a1 a2 a3 HO3 N3 hb13 hb12 x3' B4w
 go_wp2_with fail
 go_loopw [12] (fun i wr => ∃ (k : Nat) (Z : List C3), i = .int .i64 k ∧ k ≤ L.length ∧ Z.length = k ∧ (∀ j, j < k → Rl j (Z.getD j k0)) ∧ HSp wr w1.heap.size g cb (putT ss m L Z k) ∧ Bel w1 wr ∧ (∀ c o x, ((ss.getD m s0).2 ≠ [] → c ≠ cb m) → w4.cell? ⟨c, o, none⟩ = some x → wr.cell? ⟨c, o, none⟩ = some x)) (fun i _ => L.length - (intOf i).toNat)
 case atStart => exact ⟨0, [], rfl, by omega, rfl, fun j hj => absurd hj (by omega), by rw [zn6 ss m L [] hm]; exact HO4.out, HW4.out, fun _ _ _ _ h => h⟩
 case round =>
  obtain ⟨k, Z, rfl, hk, hZl, hZr, hP, hB, hKc⟩ := hrel
  have HZL := hide hZl
  have HZR := hide hZr
  have HP := hide hP
  have HB := hide hB
  have HKc := hide hKc
  clear hP hB hKc hZl hZr
  by_cases hkn : k < L.length
  ·obtain ⟨gl, rfl, hgl, hrow, _⟩ := HOwn.out.resolve_left (fun e => by rw [e] at hkn; simp at hkn)
   have hmem : L.getD k 0 ∈ L := by rw [List.getD_eq_getElem?_getD, List.getElem?_eq_getElem hkn]; exact List.getElem_mem _
   have hp0 := hpos.out _ hmem
   have hp1 := Hin.out _ hmem
   have rL := hrow k hkn
   rw [Nat.zero_add] at rL
   obtain ⟨p, hp⟩ : ∃ p : Nat, L.getD k 0 = (p : Int) := ⟨(L.getD k 0).toNat, by omega⟩
   have Hp := hide hp
   rw [hp] at rL hp1 hp0
   have hpc : p < (ss.getD m s0).2.length := by omega
   have hne : (ss.getD m s0).2 ≠ [] := fun e => by rw [e] at hpc; simp at hpc
   have hcm := hcbw.out hne
   have hml : m < (putT ss m L Z k).length := by rw [zm]; exact hm
   have hnem : ((putT ss m L Z k).getD m s0).2 ≠ [] := fun e => by rw [zf1, (zb1 ss m L Z k m).2.1] at e; omega
   have hgm := HP.out.ne m hml hnem
   obtain ⟨sq, cp, q1, q2⟩ := HP.out.sl m hml
   obtain rfl := q2.resolve_left hnem
   rw [(zb1 ss m L Z k m).2.1] at q1
   obtain ⟨y0, y1, y2⟩ := HP.out.row m hml hnem p (by rw [(zb1 ss m L Z k m).2.1]; exact hpc)
   rw [Nat.zero_add] at y0 y1 y2
   have hfr := HP.out.fzr m hml hnem
   have hkX : k < X.length := by omega
   obtain ⟨sx', cx', ex, hxr⟩ := HX.out
   injection ex with ex1 ex2 ex3
   subst ex1 ex3
   clear ex2
   obtain ⟨bx, ox, rfl, hxc⟩ := hxr.resolve_left (fun e => by rw [e] at hkX; simp at hkX)
   obtain ⟨t0, t1, t2⟩ := hxc k hkX
   have hbx := zj t0
   have Bww := Bel.tr B1.out HB.out
   have hcj := HCV0.out k hkX
   have t0 := Bel.box Bww t0
   have t1 := Bel.box Bww t1
   have t2 := Bel.box Bww t2
   generalize X.getD k k0 = xv at t0 t1 t2 hcj
   obtain ⟨xi, xf, xg⟩ := xv
   simp only at t0 t1 t2
   unfold cellV at hcj
   have HCJ := hide hcj
   generalize hcs : (ss.getD m s0).2 = cs at q1 hpc
   have Hcs := hide hcs
   have B0r := Bel.tr B01.out HB.out
   have SA : Hid ((fun w' : World => w'.cell? ⟨w2.heap.size, 0, none⟩ = some (.slice (some ⟨g, 0, none⟩) ss.length cg) ∧ w'.cell? ⟨w.heap.size, 0, none⟩ = some (.slice sa ss.length cap) ∧ w'.cell? ⟨w.heap.size + 1, 0, none⟩ = some (.int .i64 m) ∧ w'.cell? ⟨w.heap.size + 1, 1, none⟩ = some (.slice s1 xs.length d1) ∧ w'.cell? ⟨w.heap.size + 1, 2, none⟩ = some (.slice s2 sv.length d2) ∧ w'.cell? ⟨w.heap.size + 1, 3, none⟩ = some (.int .i64 off) ∧ w'.cell? ⟨g, m * 2 + 1, none⟩ = some (.slice (some ⟨cb m, 0, none⟩) cs.length cp) ∧ w'.cell? ⟨gl, k, none⟩ = some (.int .i64 p) ∧ w'.cell? ⟨bx, ox + k * 3, none⟩ = some (.int .i64 xi) ∧ w'.cell? ⟨bx, ox + k * 3 + 1, none⟩ = some (.float .f64 xf) ∧ w'.cell? ⟨bx, ox + k * 3 + 2, none⟩ = some (.float .f64 xg)) wr.drew) := ⟨HKc.out _ _ _ (fun _ => by omega) N4.out, Bel.box B0r k0H.out, Bel.box B0r a0H.out, Bel.box B0r a1H.out, Bel.box B0r a2H.out, Bel.box B0r a3H.out, q1, HKc.out _ _ _ (fun _ => by omega) rL, t0, t1, t2⟩
   have hk0' : (0 : Int) ≤ (k : Int) := Int.natCast_nonneg _
   have hk1 : (k : Int) < (L.length : Int) := by omega
   have hk2 : (k : Int) < (X.length : Int) := by omega
   have hp2 : (0 : Int) ≤ (p : Int) := Int.natCast_nonneg _
   have hp3 : (p : Int) < (cs.length : Int) := by omega
   have hm0 : (0 : Int) ≤ (m : Int) := Int.natCast_nonneg _
   have hm1 : (m : Int) < (ss.length : Int) := by omega
   have HTY2 := hide (HTY.out wr.drew (Bel.tr Bww (show Bel wr wr.drew from (Below.refl _ _).drew)))
   have HBww := hide Bww
   have hwb : w.heap.size + 3 ≤ w1.heap.size := by omega
   have hd : decide ((k : Int) < (L.length : Int)) = true := decide_eq_true (by omega)
   clear hrow rL hxr hxc t0 t1 t2 q1 hcj hcs hp hp0 hp1 hmem Bww B0r
   go_wp2_with fail
   go_region_held3 (fun w' : World => w'.cell? ⟨w2.heap.size, 0, none⟩ = some (.slice (some ⟨g, 0, none⟩) ss.length cg) ∧ w'.cell? ⟨w.heap.size, 0, none⟩ = some (.slice sa ss.length cap) ∧ w'.cell? ⟨w.heap.size + 1, 0, none⟩ = some (.int .i64 m) ∧ w'.cell? ⟨w.heap.size + 1, 1, none⟩ = some (.slice s1 xs.length d1) ∧ w'.cell? ⟨w.heap.size + 1, 2, none⟩ = some (.slice s2 sv.length d2) ∧ w'.cell? ⟨w.heap.size + 1, 3, none⟩ = some (.int .i64 off) ∧ w'.cell? ⟨g, m * 2 + 1, none⟩ = some (.slice (some ⟨cb m, 0, none⟩) cs.length cp) ∧ w'.cell? ⟨gl, k, none⟩ = some (.int .i64 p) ∧ w'.cell? ⟨bx, ox + k * 3, none⟩ = some (.int .i64 xi) ∧ w'.cell? ⟨bx, ox + k * 3 + 1, none⟩ = some (.float .f64 xf) ∧ w'.cell? ⟨bx, ox + k * 3 + 2, none⟩ = some (.float .f64 xg)) (first | with_reducible exact SA.out | exact SA.out | exact SB.out | exact SC.out | exact SD.out) (first | (go_at_call 26; refine HTY2.out.mono ?_; rintro e w5 ⟨rfl, x5⟩; have SB : Hid ((fun w' : World => w'.cell? ⟨w2.heap.size, 0, none⟩ = some (.slice (some ⟨g, 0, none⟩) ss.length cg) ∧ w'.cell? ⟨w.heap.size, 0, none⟩ = some (.slice sa ss.length cap) ∧ w'.cell? ⟨w.heap.size + 1, 0, none⟩ = some (.int .i64 m) ∧ w'.cell? ⟨w.heap.size + 1, 1, none⟩ = some (.slice s1 xs.length d1) ∧ w'.cell? ⟨w.heap.size + 1, 2, none⟩ = some (.slice s2 sv.length d2) ∧ w'.cell? ⟨w.heap.size + 1, 3, none⟩ = some (.int .i64 off) ∧ w'.cell? ⟨g, m * 2 + 1, none⟩ = some (.slice (some ⟨cb m, 0, none⟩) cs.length cp) ∧ w'.cell? ⟨gl, k, none⟩ = some (.int .i64 p) ∧ w'.cell? ⟨bx, ox + k * 3, none⟩ = some (.int .i64 xi) ∧ w'.cell? ⟨bx, ox + k * 3 + 1, none⟩ = some (.float .f64 xf) ∧ w'.cell? ⟨bx, ox + k * 3 + 2, none⟩ = some (.float .f64 xg)) w5) := ⟨x5.box (SA.out.1), x5.box (SA.out.2.1), x5.box (SA.out.2.2.1), x5.box (SA.out.2.2.2.1), x5.box (SA.out.2.2.2.2.1), x5.box (SA.out.2.2.2.2.2.1), x5.box (SA.out.2.2.2.2.2.2.1), x5.box (SA.out.2.2.2.2.2.2.2.1), x5.box (SA.out.2.2.2.2.2.2.2.2.1), x5.box (SA.out.2.2.2.2.2.2.2.2.2.1), x5.box (SA.out.2.2.2.2.2.2.2.2.2.2)⟩; have X5 := hide x5; clear x5) | (go_at_call 73; refine (HCJ.out _).mono ?_; rintro e w6 ⟨⟨ci, cf, ch⟩, rfl, hrl, x6⟩; have HRL := hide hrl; clear hrl; have SC : Hid ((fun w' : World => w'.cell? ⟨w2.heap.size, 0, none⟩ = some (.slice (some ⟨g, 0, none⟩) ss.length cg) ∧ w'.cell? ⟨w.heap.size, 0, none⟩ = some (.slice sa ss.length cap) ∧ w'.cell? ⟨w.heap.size + 1, 0, none⟩ = some (.int .i64 m) ∧ w'.cell? ⟨w.heap.size + 1, 1, none⟩ = some (.slice s1 xs.length d1) ∧ w'.cell? ⟨w.heap.size + 1, 2, none⟩ = some (.slice s2 sv.length d2) ∧ w'.cell? ⟨w.heap.size + 1, 3, none⟩ = some (.int .i64 off) ∧ w'.cell? ⟨g, m * 2 + 1, none⟩ = some (.slice (some ⟨cb m, 0, none⟩) cs.length cp) ∧ w'.cell? ⟨gl, k, none⟩ = some (.int .i64 p) ∧ w'.cell? ⟨bx, ox + k * 3, none⟩ = some (.int .i64 xi) ∧ w'.cell? ⟨bx, ox + k * 3 + 1, none⟩ = some (.float .f64 xf) ∧ w'.cell? ⟨bx, ox + k * 3 + 2, none⟩ = some (.float .f64 xg)) w6) := ⟨x6.box (SB.out.1), x6.box (SB.out.2.1), x6.box (SB.out.2.2.1), x6.box (SB.out.2.2.2.1), x6.box (SB.out.2.2.2.2.1), x6.box (SB.out.2.2.2.2.2.1), x6.box (SB.out.2.2.2.2.2.2.1), x6.box (SB.out.2.2.2.2.2.2.2.1), x6.box (SB.out.2.2.2.2.2.2.2.2.1), x6.box (SB.out.2.2.2.2.2.2.2.2.2.1), x6.box (SB.out.2.2.2.2.2.2.2.2.2.2)⟩; have xx := ((Ext.refl wr).drew.trans X5.out).trans x6; have X6 := hide xx; have SD : Hid ((fun w' : World => w'.cell? ⟨w2.heap.size, 0, none⟩ = some (.slice (some ⟨g, 0, none⟩) ss.length cg) ∧ w'.cell? ⟨w.heap.size, 0, none⟩ = some (.slice sa ss.length cap) ∧ w'.cell? ⟨w.heap.size + 1, 0, none⟩ = some (.int .i64 m) ∧ w'.cell? ⟨w.heap.size + 1, 1, none⟩ = some (.slice s1 xs.length d1) ∧ w'.cell? ⟨w.heap.size + 1, 2, none⟩ = some (.slice s2 sv.length d2) ∧ w'.cell? ⟨w.heap.size + 1, 3, none⟩ = some (.int .i64 off) ∧ w'.cell? ⟨g, m * 2 + 1, none⟩ = some (.slice (some ⟨cb m, 0, none⟩) cs.length cp) ∧ w'.cell? ⟨gl, k, none⟩ = some (.int .i64 p) ∧ w'.cell? ⟨bx, ox + k * 3, none⟩ = some (.int .i64 xi) ∧ w'.cell? ⟨bx, ox + k * 3 + 1, none⟩ = some (.float .f64 xf) ∧ w'.cell? ⟨bx, ox + k * 3 + 2, none⟩ = some (.float .f64 xg)) (setC w6 (cb m) (p * 3) (ci, cf, ch))) := ⟨zn (by omega) (SC.out.1), zn (by omega) (SC.out.2.1), zn (by omega) (SC.out.2.2.1), zn (by omega) (SC.out.2.2.2.1), zn (by omega) (SC.out.2.2.2.2.1), zn (by omega) (SC.out.2.2.2.2.2.1), zn (by omega) (SC.out.2.2.2.2.2.2.1), zn (by omega) (SC.out.2.2.2.2.2.2.2.1), zn (by omega) (SC.out.2.2.2.2.2.2.2.2.1), zn (by omega) (SC.out.2.2.2.2.2.2.2.2.2.1), zn (by omega) (SC.out.2.2.2.2.2.2.2.2.2.2)⟩; have z0 := xx.box y0; have z1 := xx.box y1; have z2 := xx.box y2; have fz := fun q => (xx.fz _).trans (hfr q); have g0 := fz (p * 3); have g1 := fz (p * 3 + 1); have g2 := fz (p * 3 + 2); clear x6 xx fz))
   have HZE : Hid (putT ss m L Z k = putT ss m L (Z ++ [(ci, cf, ch)]) k) := putT_congr ss m (fun _ _ => rfl) (fun i hi => by rw [zy4, HZL.out, if_pos hi])
   have HPZ := HP.out
   rw [HZE.out] at HPZ
   have HPN := hide (HPZ.putc (x := (ci, cf, ch)) hm (by rw [Hcs.out]; exact hpc) Hp.out X6.out (by rw [zy4, HZL.out, if_neg (by omega), if_pos rfl]))
   clear HPZ
   have HBN : Hid (Bel w1 (setC w6 (cb m) (p * 3) (ci, cf, ch))) := zc8 (Bel.tr HB.out X6.out.bl) hgm.2 _ _
   have HKN : Hid (∀ c o x, ((ss.getD m s0).2 ≠ [] → c ≠ cb m) → w4.cell? ⟨c, o, none⟩ = some x → (setC w6 (cb m) (p * 3) (ci, cf, ch)).cell? ⟨c, o, none⟩ = some x) := fun c o x hc hx => zn (hc hne) (X6.out.box (HKc.out c o x hc hx))
   unfold setC at HPN HBN HKN
   clear SA SB SC SD
   go_wp2_with fail
   go_roundw
   ·exact ⟨k + 1, Z ++ [(ci, cf, ch)], by go_num, by omega, by simp [HZL.out], fun j hj => by (rw [zy4, HZL.out]; by_cases e : j < k; (rw [if_pos e]; exact HZR.out j e); (rw [if_neg e, if_pos (show j = k by omega), show j = k by omega]; exact HRL.out)), HPN.out, HBN.out, fun c o x hc hx => HKN.out c o x (fun h => hc (by rw [← Hcs.out]; exact h)) hx⟩
   ·simp [intOf]; omega
  ·have hkk : k = L.length := by omega
   subst hkk
   have c3 := HKc.out _ _ _ (fun hne => by have := hcbw.out hne; omega) N4.out
   have B0r := Bel.tr B01.out HB.out
   have r0 := Bel.box B0r r0H.out
   have r1 := Bel.box B0r r1H.out
   have f0 := (Below.frozen B0r (p := ⟨w.heap.size + 2, 0, none⟩) (zj r0H.out)).trans (FR.out 0)
   have f1 := (Below.frozen B0r (p := ⟨w.heap.size + 2, 1, none⟩) (zj r0H.out)).trans (FR.out 1)
   have hd : decide (((L.length : Nat) : Int) < (L.length : Int)) = false := decide_eq_false (by omega)
   have HBF := hide (Bel.tr X0.out B0r)
   clear B0r
   go_wp2
   refine bodyPost_ret (v := .agg #[.int .i64 0, .slice (some ⟨g, 0, none⟩) ss.length cg]) (by simp [results, Tryz.results31, go_sem, r0, r1]) rfl ⟨g, cg, cb, Z, rfl, HZL.out, fun j hj => HZR.out j (by rw [← HZL.out]; exact hj), ?_, ?_⟩
   ·refine HSp.lower (HP.out.keep (fun b hb _ => ?_)) (by omega)
    first
     | exact (Below.heap_setCell _ _ _ _ (by show b ≠ w.heap.size + 1 + 1; omega)).trans (Below.heap_setCell _ _ _ _ (by show b ≠ w.heap.size + 1 + 1; omega))
     | exact (Below.heap_setCell _ _ _ _ (by show b ≠ w.heap.size + 1 + 1; omega))
   ·have hp : ∀ q, w.heap.size ≤ (⟨w.heap.size + 1 + 1, q, none⟩ : Addr).block := fun q => by show _ ≤ w.heap.size + 1 + 1; omega
    first
     | exact (HBF.out.setCell (hp 0) _).setCell (hp 1) _
     | exact HBF.out.setCell (hp 1) _
def RdRel (w2 : World) (g0 : Nat) (f : Int → C3) (L : List Int) (o i : Value) (wr : World) : Prop := ∃ m : Nat, i = .int .i64 m ∧ m ≤ L.length ∧ wr.ownsRow g0 66 3 o m (flat ((L.take m).map f)) ∧ (o.ownBlock = some g0 ∨ ∃ k, o.ownBlock = some k ∧ w2.heap.size ≤ k) ∧ w2.grownBy wr (some g0)
theorem take_more (f : Int → C3) (L : List Int) (m : Nat) (hm : m < L.length) : (L.take (m + 1)).map f = (L.take m).map f ++ [f (L.getD m 0)] := by
 rw [List.take_add_one, List.map_append, List.getD_eq_getElem?_getD, List.getElem?_eq_getElem hm]
 rfl
theorem l4Read_any {w : World} {v vS vT : Value} {ss : List St} {xs sv : List Int} (h : SV w v ss) (hl : SL ss 1048576) (st : Int) (hS : Ints w vS xs) (hT : Ints w vT sv) (off : Int) (hG : GoodA ss st xs sv off) :
  Calls Tryz.prog 29 #[.agg #[v], .int .i64 st, .agg #[vS, vT, .int .i64 off]] w fun e w' => CellsOk w (readL ss st xs sv off) e w' := by
 obtain ⟨i59, hi59, hy0, hy1, hy2⟩ := info_parts zx4
 obtain ⟨sa, cap, rfl, hx⟩ := h
 have h : SV w (.slice sa ss.length cap) ss := ⟨sa, cap, rfl, hx⟩
 have n1 := fun j => ze w #[.slice sa ss.length cap] 34 w.heap.size rfl j
 generalize hW1 : (w.alloc (.cells #[.slice sa ss.length cap] 34)).alloc (.cells #[vS, vT, .int .i64 off] 39) = W1
 have x1 : Ext w W1 := by rw [← hW1]; exact ((Ext.refl w).alloc _ _).alloc _ _
 have hs1 : W1.heap.size = w.heap.size + 1 + 1 := by rw [← hW1]; simp
 have c1 : W1.cell? ⟨w.heap.size, 0, none⟩ = some (.slice sa ss.length cap) := by rw [← hW1]; exact ((Ext.refl _).alloc _ _).box (n1 0)
 have y0 : Ext W1 (W1.alloc (.cells #[] 66)) := (Ext.refl _).alloc _ _
 have x0 : Ext w (W1.alloc (.cells #[] 66)) := x1.trans y0
 have C0 : Hid ((W1.alloc (.cells #[] 66)).cell? ⟨w.heap.size, 0, none⟩ = some (.slice sa ss.length cap)) := y0.box c1
 have O0 : Hid ((W1.alloc (.cells #[] 66)).ownsRow (w.heap.size + 1 + 1) 66 3 (.slice (some ⟨w.heap.size + 1 + 1, 0, none⟩) 0 0) 0 []) := by
  have := World.ownsRow_made (base := w.heap.size + 1 + 1) (e := 66) (size := 3) W1 #[] 0 (by omega) (by unfold maxLen; omega) (by simp)
  rw [hs1] at this
  exact this
 have X0 := hide x0
 have HH := hide h
 have HS := hide (hS.ext x0)
 have HT := hide (hT.ext x0)
 have hl1 := hl.1
 have hsW : (W1.alloc (.cells #[] 66)).heap.size = w.heap.size + 3 := by simp; omega
 clear hx h x0 y0 n1 c1 x1 hs1
 obtain ⟨s1, d1, rfl, _⟩ := hS
 obtain ⟨s2, d2, rfl, _⟩ := hT
 obtain ⟨⟨hk0, hk1⟩, hv, hin⟩ := hG
 obtain ⟨k, rfl⟩ : ∃ k : Nat, st = (k : Int) := ⟨st.toNat, by omega⟩
 have hk : k < ss.length := by omega
 have hL : Hid (readL ss k xs sv off = (offsL xs sv off).map fun p => (ss.getD k s0).2.getD p.toNat k0) := by show readL ss k xs sv off = _; unfold readL; rw [Int.toNat_natCast]
 rw [Int.toNat_natCast] at hin
 have hoff := hide (zj2 HS.out HT.out off hv)
 have hOl := zr4 hv
 have hon : Hid (∀ p ∈ offsL xs sv off, 0 ≤ p ∧ p < ((ss.getD k s0).2.length : Int)) := fun p hp => ⟨(zp3 hv p hp).1, hin p hp⟩
 clear hin hv
 generalize hW0 : W1.alloc (.cells #[] 66) = W0 at C0 O0 X0 HS HT hoff hsW
 subst hW1
 have HW0 := hide hW0
 clear hW0
 go_enter Tryz.func29, Tryz.ntmps29
 go_wp2_with fail
 rw [HW0.out]
 refine hoff.out.mono ?_
 rintro e w2 ⟨so, co, rfl, hO, x2⟩
 have HO := hide hO
 have HX2 := hide x2
 have c2' := Bel.box x2 C0.out
 have O2 : Hid (w2.ownsRow (w.heap.size + 1 + 1) 66 3 (.slice (some ⟨w.heap.size + 1 + 1, 0, none⟩) 0 0) 0 []) := O0.out.kept (row := none) ⟨x2.os, x2.tape, x2.output, x2.size, fun k hk _ => x2.block k hk⟩ (Or.inr (by intro e; cases e))
 have hs2 : w.heap.size + 3 ≤ w2.heap.size := by have := Below.size x2; omega
 have X2 := hide (Bel.tr X0.out.bl x2)
 clear x2 hO C0 O0 X0 HS HT hoff HW0
 obtain ⟨sb0, cb0, eb0, hrow0⟩ := HH.out
 injection eb0 with eb1 _ eb2
 subst eb1 eb2
 rcases hrow0 with h0 | ⟨bs, os, rfl, hrow⟩
 ·rw [h0] at hk; simp at hk
 obtain ⟨q0, u, q1, q2⟩ := hrow k hk
 have hcl := hl.at k hk
 have Q2 := hide q2
 clear hrow q2
 obtain ⟨su, cu, rfl, _⟩ := Q2.out
 generalize (ss.getD k s0).1 = DT at q0
 generalize (ss.getD k s0).2 = cs at q1 Q2 hcl hL hon
 generalize offsL xs sv off = L at HO hOl hon hL ⊢
 have hb0 : bs < w.heap.size := zj q1
 have q1 := Bel.box X2.out q1
 have hM8 : (4096 + 1) * 24 ≤ 140737488355328 := by omega
 go_wp2_with fail
 go_loopw [7, 9] (fun o i wr => RdRel w2 (w.heap.size + 1 + 1) (fun p => cs.getD p.toNat k0) L o i wr) (fun o i _ => L.length - (intOf i).toNat)
 case atStart => exact ⟨0, rfl, by omega, O2.out, Or.inl rfl, ⟨rfl, rfl, rfl, Nat.le_refl _, fun _ _ _ => rfl⟩⟩
 case round =>
  obtain ⟨m, rfl, hm, hown, hob, hgr⟩ := hrel
  have HOW := hide hown
  have HOB := hide hob
  have HGR := hide hgr
  clear hown hob hgr
  by_cases hml : m < L.length
  ·rcases HO.out with h0 | ⟨g, rfl, hg1, hrowL, _⟩
   ·rw [h0] at hml; simp at hml
   have hmem := hon.out (L.getD m 0) (by rw [List.getD_eq_getElem?_getD, List.getElem?_eq_getElem hml]; exact List.getElem_mem hml)
   have l0 := hrowL m hml
   rw [Nat.zero_add] at l0
   have hgl := zj l0
   have HT2 := hide (take_more (fun p => cs.getD p.toNat k0) L m hml)
   obtain ⟨x, hxx⟩ : ∃ x : Nat, L.getD m 0 = (x : Int) := ⟨(L.getD m 0).toNat, by omega⟩
   rw [hxx] at l0 hmem HT2
   rw [Int.toNat_natCast] at HT2
   have hxl : x < cs.length := by omega
   rcases Q2.out with ⟨su2, cu2, e2, h0 | ⟨bc, oc, e3, hrowC⟩⟩
   ·rw [h0] at hxl; simp at hxl
   injection e2 with e4 _ _
   subst e4
   subst e3
   have t0 := hrowC x hxl
   have t1 := t0.2.1
   have t2 := t0.2.2
   have t0 := t0.1
   have hbc := zj t0
   have t0 := Bel.box X2.out t0
   have t1 := Bel.box X2.out t1
   have t2 := Bel.box X2.out t2
   generalize cs.getD x k0 = cx at t0 t1 t2 HT2
   obtain ⟨A, B, C⟩ := cx
   clear hrowC hrowL hxx
   have hsr := HGR.out.size
   have s0' := za1 HGR.out (by omega) c2'
   have s1' := za1 HGR.out (by omega) q1
   have s2' := za1 HGR.out (by omega) l0
   have s3' := za1 HGR.out (by omega) t0
   have s4' := za1 HGR.out (by omega) t1
   have s5' := za1 HGR.out (by omega) t2
   have hm0 : (0 : Int) ≤ (m : Int) := Int.natCast_nonneg _
   have hm1 : (m : Int) < (L.length : Int) := by omega
   have hx0 : (0 : Int) ≤ (x : Int) := Int.natCast_nonneg _
   have hx1 : (x : Int) < (cs.length : Int) := by omega
   have SA : Hid ((fun w' => w'.cell? ⟨w.heap.size, 0, none⟩ = some (.slice (some ⟨bs, os, none⟩) ss.length cap) ∧ w'.cell? ⟨bs, os + k * 2 + 1, none⟩ = some (.slice (some ⟨bc, oc, none⟩) cs.length cu) ∧ w'.cell? ⟨g, m, none⟩ = some (.int .i64 (x : Int)) ∧ w'.cell? ⟨bc, oc + x * 3, none⟩ = some (.int .i64 A) ∧ w'.cell? ⟨bc, oc + x * 3 + 1, none⟩ = some (.float .f64 B) ∧ w'.cell? ⟨bc, oc + x * 3 + 2, none⟩ = some (.float .f64 C)) wr.drew) := ⟨s0', s1', s2', s3', s4', s5'⟩
   have hS : Hid (∀ W : World, w2.grownBy W (some (w.heap.size + 1 + 1)) → (fun w' => w'.cell? ⟨w.heap.size, 0, none⟩ = some (.slice (some ⟨bs, os, none⟩) ss.length cap) ∧ w'.cell? ⟨bs, os + k * 2 + 1, none⟩ = some (.slice (some ⟨bc, oc, none⟩) cs.length cu) ∧ w'.cell? ⟨g, m, none⟩ = some (.int .i64 (x : Int)) ∧ w'.cell? ⟨bc, oc + x * 3, none⟩ = some (.int .i64 A) ∧ w'.cell? ⟨bc, oc + x * 3 + 1, none⟩ = some (.float .f64 B) ∧ w'.cell? ⟨bc, oc + x * 3 + 2, none⟩ = some (.float .f64 C)) W) := fun W hW => ⟨za1 hW (by omega) c2', za1 hW (by omega) q1, za1 hW (by omega) l0, za1 hW (by omega) t0, za1 hW (by omega) t1, za1 hW (by omega) t2⟩
   have HGA := hide (grown_drew (zu13 HGR.out (.cells #[.int .i64 A, .float .f64 B, .float .f64 C] 66)))
   have SB := hide (hS.out _ HGA.out)
   have hnews := World.news_of_block (w := (wr.alloc (.cells #[.int .i64 A, .float .f64 B, .float .f64 C] 66)).drew) (cs := #[.int .i64 A, .float .f64 B, .float .f64 C]) (t := 66) (fr := (0, 0)) (heap_alloc_new wr _)
   have HN := hide hnews
   clear hnews
   have hbase : w.heap.size + 1 + 1 ≤ ((wr.alloc (.cells #[.int .i64 A, .float .f64 B, .float .f64 C] 66)).drew).heap.size := by show _ ≤ (wr.alloc _).heap.size; simp; omega
   have hH : ((wr.alloc (.cells #[.int .i64 A, .float .f64 B, .float .f64 C] 66)).drew).heap.size = wr.heap.size + 1 := by show (wr.alloc _).heap.size = _; simp
   have h63 : m + 1 ≤ maxLen := by unfold maxLen; omega
   have h24 : (m + 1) * 24 ≤ 140737488355328 := by omega
   go_wp2_with fail
   go_region_held3 (fun w' => w'.cell? ⟨w.heap.size, 0, none⟩ = some (.slice (some ⟨bs, os, none⟩) ss.length cap) ∧ w'.cell? ⟨bs, os + k * 2 + 1, none⟩ = some (.slice (some ⟨bc, oc, none⟩) cs.length cu) ∧ w'.cell? ⟨g, m, none⟩ = some (.int .i64 (x : Int)) ∧ w'.cell? ⟨bc, oc + x * 3, none⟩ = some (.int .i64 A) ∧ w'.cell? ⟨bc, oc + x * 3 + 1, none⟩ = some (.float .f64 B) ∧ w'.cell? ⟨bc, oc + x * 3 + 2, none⟩ = some (.float .f64 C)) (first | with_reducible exact SA.out | with_reducible exact SB.out | with_reducible exact SC.out | exact SA.out | exact SB.out | exact SC.out | fail) ((refine step_append_lies _ (by rfl) (.tmp 19) (.tmp 32) 61 (by rfl) (w.heap.size + 1 + 1) 66 i59 (.agg #[.int .i64 0, .float .f64 0, .float .f64 0]) 3 24 Tryz.underlying61 hi59 hy0 hy1 hy2 rfl (by omega) _ m _ (by rfl) ((HOW.out.alloc _).drew) ⟨wr.heap.size, 0, none⟩ 1 1 (c3v (A, B, C)) (by rfl) (by rfl) HN.out (zo7 _) (by omega) h63 h24 hbase (wr.heap.size + 1) hH ?_; intro g9 cap9 w9 hown9 hgrow9 hat9 hlt9; have HG9 := hide (grown_more HGA.out hgrow9 HOB.out); have SC := hide (hS.out _ HG9.out); have HO9 := hide hown9; have HA9 := hide hat9; clear hown9 hgrow9 hat9))
   go_wp2
   go_roundw
   ·refine ⟨m + 1, by go_num, by omega, ?_, ?_, HG9.out⟩
    ·rw [HT2.out, zz5]
     exact HO9.out
    ·rcases HA9.out with e | e
     ·rcases HOB.out with q | ⟨z, q, hz⟩
      ·exact Or.inl (by rw [← q, e]; rfl)
      ·exact Or.inr ⟨z, by rw [← q, e]; rfl, hz⟩
     ·exact Or.inr ⟨g9, rfl, by omega⟩
   ·simp [intOf]; omega
  ·have hmm : m = L.length := by omega
   subst hmm
   have H1 := HOW.out
   rw [List.take_length] at H1
   obtain ⟨sz, cz, rfl, ho⟩ := zq4 (lo := w.heap.size) (by omega) H1
   have HB : Bel w wr := ⟨HGR.out.os.trans X2.out.os, HGR.out.tape.trans X2.out.tape, HGR.out.output.trans X2.out.output, Nat.le_trans X2.out.size HGR.out.size, fun j hj => (HGR.out.block j (Nat.lt_of_lt_of_le hj X2.out.size) (fun e => by cases e; omega)).trans (X2.out.block j hj)⟩
   have HHo := hide ho
   have HHB := hide HB
   clear ho H1 HB
   go_wp2
   go_ret
   rw [hL.out]
   exact ⟨sz, cz, rfl, HHo.out, HHB.out⟩
structure MuB (b : Nat) (w w' : World) : Prop where
 os : w'.os = w.os
 tape : w'.tape = w.tape
 output : w'.output = w.output
 size : w.heap.size ≤ w'.heap.size
 block : ∀ k, k < w.heap.size → k ≠ b → w'.heap[k]? = w.heap[k]?
theorem MuB.refl (b : Nat) (w : World) : MuB b w w := ⟨rfl, rfl, rfl, Nat.le_refl _, fun _ _ _ => rfl⟩
theorem MuB.bel {b : Nat} {w w1 w2 : World} (h : MuB b w w1) (x : Bel w1 w2) : MuB b w w2 := ⟨x.os.trans h.os, x.tape.trans h.tape, x.output.trans h.output, Nat.le_trans h.size x.size, fun k hk hn => (x.block k (Nat.lt_of_lt_of_le hk h.size)).trans (h.block k hk hn)⟩
theorem MuB.set {b : Nat} {w w1 : World} (h : MuB b w w1) (o : Nat) (v : Value) : MuB b w (w1.setCell ⟨b, o, none⟩ v) := ⟨h.os, h.tape, h.output, by have := h.size; simpa [World.setCell] using this, fun k hk hn => (Below.heap_setCell _ _ _ _ hn).trans (h.block k hk hn)⟩
theorem MuB.box {b : Nat} {w w1 : World} (h : MuB b w w1) {c o : Nat} {v : Value} (hc : c ≠ b) (hv : w.cell? ⟨c, o, none⟩ = some v) : w1.cell? ⟨c, o, none⟩ = some v := (World.cell?_of_block (w := w) (a := ⟨c, o, none⟩) (h.block c (zj hv) hc)).trans hv
theorem MuB.frozen {b : Nat} {w w1 : World} (h : MuB b w w1) {c o : Nat} (hc : c ≠ b) (hl : c < w.heap.size) : w1.frozen? ⟨c, o, none⟩ = w.frozen? ⟨c, o, none⟩ := World.frozen?_of_block (w := w) (a := ⟨c, o, none⟩) (h.block c hl hc)
theorem MuB.below {b : Nat} {w0 w w1 : World} (h : MuB b w w1) (x : Bel w0 w) (hb : w0.heap.size ≤ b) : Bel w0 w1 := ⟨h.os.trans x.os, h.tape.trans x.tape, h.output.trans x.output, Nat.le_trans x.size h.size, fun k hk => (h.block k (Nat.lt_of_lt_of_le hk x.size) (by omega)).trans (x.block k hk)⟩
structure SoI (w5 : World) (cB n : Nat) (C : List C3) (W : World) : Prop where
 row : CRow W cB 0 C
 len : C.length = n
 fz : ∀ o, W.frozen? ⟨cB, o, none⟩ = false
 mu : MuB cB w5 W
 lt : cB < w5.heap.size
theorem SoI.bel {w5 : World} {cB n : Nat} {C : List C3} {W W' : World} (h : SoI w5 cB n C W) (x : Bel W W') : SoI w5 cB n C W' :=
 ⟨h.row.keep x, h.len, fun o => (Below.frozen x (p := ⟨cB, o, none⟩) (Nat.lt_of_lt_of_le h.lt h.mu.size)).trans (h.fz o), h.mu.bel x, h.lt⟩
theorem SoI.set {w5 : World} {cB n p : Nat} {C : List C3} {W : World} (h : SoI w5 cB n C W) (hp : p < n) (c : C3) : SoI w5 cB n (C.set p c) (setC W cB (p * 3) c) := by
 refine ⟨?_, by rw [List.length_set]; exact h.len, fun o => (zp12 _ _ _ _ _).trans (h.fz o), ((h.mu.set _ _).set _ _).set _ _, h.lt⟩
 have q := h.row.set p (by rw [h.len]; exact hp) c
 simp only [Nat.zero_add] at q
 exact q
theorem ze13 (W : World) (n : Nat) (hn : n ≤ 4096) : (Instr.makeSlice 61 (.int .i64 n) (.int .i64 n)).run Tryz.prog W = .ok (.slice (some ⟨W.heap.size, 0, none⟩) n n) (W.alloc (.cells (madeCells #[.int .i64 0, .float .f64 0, .float .f64 0] (n * 3)) 66)) := by
 obtain ⟨i0, hi0, hz0, hz1, hz2⟩ := info_parts zx4
 have h := run_make (P := Tryz.prog) W 61 66 i0 (.agg #[.int .i64 0, .float .f64 0, .float .f64 0]) Tryz.underlying61 hi0 hz0 .i64 .i64 n n (by omega) (by omega) (by rw [hz2]; omega) (by omega)
 rw [hz1] at h
 simp only [Int.toNat_natCast] at h
 exact h
theorem crow_made (W : World) (n : Nat) : CRow (W.alloc (.cells (madeCells #[.int .i64 0, .float .f64 0, .float .f64 0] (n * 3)) 66)) W.heap.size 0 (List.replicate n k0) := fun j hj => by
 have q := fun i => ze W (madeCells #[.int .i64 0, .float .f64 0, .float .f64 0] (n * 3)) 66 W.heap.size rfl i
 simp at hj
 rw [Nat.zero_add, q, q, q]
 have e : (List.replicate n k0).getD j k0 = k0 := by rw [List.getD_eq_getElem?_getD, List.getElem?_replicate]; split <;> rfl
 rw [e]
 have m0 : j * 3 % 3 = 0 := by omega
 have m1 : (j * 3 + 1) % 3 = 1 := by omega
 have m2 : (j * 3 + 2) % 3 = 2 := by omega
 have l0 : j * 3 < n * 3 := by omega
 have l1 : j * 3 + 1 < n * 3 := by omega
 have l2 : j * 3 + 2 < n * 3 := by omega
 simp [madeCells, l0, l1, l2, m0, m1, m2, k0]
structure SBy (w : World) (hv : Value) (A1 : List Value) (W : World) : Prop where
 h : W.cell? ⟨w.heap.size, 0, none⟩ = some hv
 a : ∀ j x, A1[j]? = some x → W.cell? ⟨w.heap.size + 1, j, none⟩ = some x
 r0 : W.cell? ⟨w.heap.size + 2, 0, none⟩ = some (.int .i64 0)
 r1 : W.cell? ⟨w.heap.size + 2, 1, none⟩ = some (.slice none 0 0)
 fz : ∀ j, W.frozen? ⟨w.heap.size + 2, j, none⟩ = false
 bl : Bel w W
 sz : w.heap.size + 3 ≤ W.heap.size
theorem SBy.keep {w : World} {hv : Value} {A1 : List Value} {W W' : World} (h : SBy w hv A1 W) (x : Bel W W') : SBy w hv A1 W' :=
 ⟨Bel.box x h.h, fun j y hy => Bel.box x (h.a j y hy), Bel.box x h.r0, Bel.box x h.r1, fun j => (Below.frozen x (p := ⟨w.heap.size + 2, j, none⟩) (zj h.r0)).trans (h.fz j), Bel.tr h.bl x, Nat.le_trans h.sz x.size⟩
theorem SBy.mu {w : World} {hv : Value} {A1 : List Value} {W W' : World} {b : Nat} (h : SBy w hv A1 W) (x : MuB b W W') (hb : w.heap.size + 3 ≤ b) : SBy w hv A1 W' :=
 ⟨x.box (by omega) h.h, fun j y hy => x.box (by omega) (h.a j y hy), x.box (by omega) h.r0, x.box (by omega) h.r1, fun j => (x.frozen (by omega) (zj h.r0)).trans (h.fz j), x.below h.bl (by omega), Nat.le_trans h.sz x.size⟩
theorem SBy.start (w : World) (hv : Value) (A1 : List Value) : SBy w hv A1 (((w.alloc (.cells #[hv] 34)).alloc (.cells A1.toArray 41)).alloc (.cells #[.int .i64 0, .slice none 0 0] 36)) := by
 have e1 := ((Ext.refl (w.alloc (.cells #[hv] 34))).alloc A1.toArray 41).alloc #[.int .i64 0, .slice none 0 0] 36
 have e2 := (Ext.refl ((w.alloc (.cells #[hv] 34)).alloc (.cells A1.toArray 41))).alloc #[.int .i64 0, .slice none 0 0] 36
 have e0 := (((Ext.refl w).alloc #[hv] 34).alloc A1.toArray 41).alloc #[.int .i64 0, .slice none 0 0] 36
 exact ⟨e1.box (ze w #[hv] 34 _ rfl 0), fun j x hx => e2.box ((ze _ A1.toArray 41 (w.heap.size + 1) (by simp) j).trans (by simpa using hx)), ze _ #[.int .i64 0, .slice none 0 0] 36 (w.heap.size + 2) (by simp) 0, ze _ #[.int .i64 0, .slice none 0 0] 36 (w.heap.size + 2) (by simp) 1, fun j => e0.unfrozen (by omega) j, e0.bl, by simp⟩
theorem arow1 {w W : World} {B : Nat} {a : Ar} {p1 q1 : Option Addr} {c1 d1 : Nat} (hB : B = W.heap.size) (i1 : Ints w (.slice p1 a.xs.length c1) a.xs) (i2 : Ints w (.slice q1 a.sv.length d1) a.sv) (x : Bel w W) :
  ARow (W.alloc (.cells #[.int .i64 a.st, .slice p1 a.xs.length c1, .slice q1 a.sv.length d1, .int .i64 a.off] 41)) B 0 [a] := by
 have n1 := fun j => ze W #[.int .i64 a.st, .slice p1 a.xs.length c1, .slice q1 a.sv.length d1, .int .i64 a.off] 41 B hB j
 have xx : Bel w (W.alloc (.cells #[.int .i64 a.st, .slice p1 a.xs.length c1, .slice q1 a.sv.length d1, .int .i64 a.off] 41)) := Bel.tr x ((Ext.refl W).alloc _ _).bl
 intro j hj
 match j, hj with
 | 0, _ => exact ⟨_, _, n1 0, n1 1, n1 2, n1 3, zp i1 xx, zp i2 xx⟩
 | j + 1, hj => simp at hj
def SsoOk (w : World) (ss : List St) (a : Ar) (ax : Int) (e : Ending) (w' : World) : Prop := ∃ c u ts, e = .returned (.agg #[.int .i64 c, u]) ∧ SortOk ss a ax c ts ∧ MSp w' w.heap.size u ts ∧ Bel w w'
theorem pk_cf {w W : World} {dt : Int} {X : List C3} {L : List Int} {K : Nat} {v : Value} {P : List C3} (h : PkI w dt X L K v P W) (hK : 0 < K) : ∃ g cap, v = .slice (some ⟨g, 0, none⟩) K cap ∧ w.heap.size ≤ g ∧ g < W.heap.size ∧ CF W g 0 K (fun i => P.getD i k0) := by
 obtain ⟨g, cap, rfl, hl⟩ := own_g h.own hK
 have hc := ze4 h.own h.len.symm
 refine ⟨g, cap, rfl, hl, zj (hc 0 (by rw [h.len]; exact hK)).1, fun j hj => ?_⟩
 exact hc j (by rw [h.len]; exact hj)
def lastC (xs sv : List Int) (off fr to : Int) : Int := if WrV xs sv off then (if castL fr to 1 = true then 0 else 10) else 9
theorem zi13 {w : World} {v vS vT : Value} {ss : List St} {xs sv : List Int} (h : SV w v ss) (m : Nat) (off : Int) (hm : m < ss.length) {fr to : Int} (h8 : (ss.getD m s0).1 = to) (hS : Ints w vS xs) (hT : Ints w vT sv) (lx : xs.length ≤ 1048576) (ls : sv.length ≤ 1048576) :
  Calls Tryz.prog 71 #[.agg #[v], .int .i64 fr, .agg #[.int .i64 m, vS, vT, .int .i64 off]] w fun e w' => e = .returned (.int .i64 (lastC xs sv off fr to)) ∧ Bel w w' := by
 obtain ⟨sa, cap, rfl, hx⟩ := h
 have h : SV w (.slice sa ss.length cap) ss := ⟨sa, cap, rfl, hx⟩
 obtain ⟨s1, d1, rfl, hS'⟩ := hS
 obtain ⟨s2, d2, rfl, hT'⟩ := hT
 have hS : Ints w (.slice s1 xs.length d1) xs := ⟨s1, d1, rfl, hS'⟩
 have hT : Ints w (.slice s2 sv.length d2) sv := ⟨s2, d2, rfl, hT'⟩
 have x0 : Ext w ((w.alloc (.cells #[.slice sa ss.length cap] 34)).alloc (.cells #[.int .i64 m, .slice s1 xs.length d1, .slice s2 sv.length d2, .int .i64 off] 41)) := ((Ext.refl w).alloc _ _).alloc _ _
 have xa : Ext (w.alloc (.cells #[.slice sa ss.length cap] 34)) ((w.alloc (.cells #[.slice sa ss.length cap] 34)).alloc (.cells #[.int .i64 m, .slice s1 xs.length d1, .slice s2 sv.length d2, .int .i64 off] 41)) := (Ext.refl _).alloc _ _
 have k0 := xa.box (ze w #[.slice sa ss.length cap] 34 w.heap.size rfl 0)
 have n1 := fun j => ze (w.alloc (.cells #[.slice sa ss.length cap] 34)) #[.int .i64 m, .slice s1 xs.length d1, .slice s2 sv.length d2, .int .i64 off] 41 (w.heap.size + 1) (by simp) j
 have a0 := n1 0
 have a1 := n1 1
 have a2 := n1 2
 have a3 := n1 3
 simp only [List.getElem?_toArray, List.getElem?_cons_zero, List.getElem?_cons_succ] at k0 a0 a1 a2 a3
 have HWR := hide (sWR_any (hS.ext x0) (hT.ext x0) off lx ls)
 have X0 := hide x0
 have HH := hide h
 clear n1 xa x0 hx hS hT hS' hT' h
 cases hw : (dcWrV xs sv off) with
 | false =>
  rw [hw] at HWR
  have hc : Hid (lastC xs sv off fr to = 9) := by show _ = _; unfold lastC; rw [if_neg (of_decide_eq_false hw)]
  clear h8
  go_enter Tryz.func71, Tryz.ntmps71
  go_wp2_with fail
  generalize ((w.alloc (.cells #[.slice sa ss.length cap] 34)).alloc (.cells #[.int .i64 m, .slice s1 xs.length d1, .slice s2 sv.length d2, .int .i64 off] 41)) = W0 at *
  refine HWR.out.mono ?_
  rintro e w1 ⟨rfl, b1⟩
  have B1 := hide (Bel.tr X0.out.bl b1)
  clear b1
  go_wp2
  go_ret
  exact ⟨by rw [hc.out]; rfl, B1.out⟩
 | true =>
  rw [hw] at HWR
  have hc : Hid (lastC xs sv off fr to = if castL fr to 1 = true then 0 else 10) := by show _ = _; unfold lastC; rw [if_pos (of_decide_eq_true hw)]
  go_enter Tryz.func71, Tryz.ntmps71
  go_wp2_with fail
  generalize ((w.alloc (.cells #[.slice sa ss.length cap] 34)).alloc (.cells #[.int .i64 m, .slice s1 xs.length d1, .slice s2 sv.length d2, .int .i64 off] 41)) = W0 at *
  refine HWR.out.mono ?_
  rintro e w1 ⟨rfl, b1⟩
  have k0 := Bel.box b1 k0
  have a0 := Bel.box b1 a0
  have a1 := Bel.box b1 a1
  have a2 := Bel.box b1 a2
  have a3 := Bel.box b1 a3
  have B1 := hide (Bel.tr X0.out.bl b1)
  have HTY := hide (za4 (vS := .slice s1 xs.length d1) (vT := .slice s2 sv.length d2) (HH.out.keep B1.out) (m : Int) off (Int.natCast_nonneg _) (by omega))
  rw [Int.toNat_natCast, h8] at HTY
  clear b1 HWR h8
  go_wp2_with fail
  refine HTY.out.mono ?_
  rintro e w2 ⟨rfl, x2⟩
  have B2 := hide (Bel.tr B1.out x2.bl)
  clear x2
  cases hcc : castL fr to 1 with
  | false =>
   rw [hcc] at hc
   go_wp2_with (go_at_call 108; refine (zn3 _ _ _ _).mono ?_; rintro e w' ⟨rfl, rfl⟩; rw [hcc])
   go_ret
   exact ⟨by rw [hc.out]; rfl, B2.out⟩
  | true =>
   rw [hcc] at hc
   go_wp2_with (go_at_call 108; refine (zn3 _ _ _ _).mono ?_; rintro e w' ⟨rfl, rfl⟩; rw [hcc])
   go_ret
   exact ⟨by rw [hc.out]; rfl, B2.out⟩
theorem zz10 {w : World} {v vS vT vX : Value} {ss : List St} {xs sv : List Int} {fr to : Int} (h : SV w v ss) (m : Nat) (off : Int) (hm : m < ss.length) (h8 : (ss.getD m s0).1 = to) (hS : Ints w vS xs) (hT : Ints w vT sv) (lx : xs.length ≤ 1048576) (ls : sv.length ≤ 1048576) (hne : lastC xs sv off fr to ≠ 0) :
  Calls Tryz.prog 31 #[.agg #[v], .int .i64 fr, vX, .agg #[.int .i64 m, vS, vT, .int .i64 off]] w fun e w' => e = .returned (.agg #[.int .i64 (lastC xs sv off fr to), .slice none 0 0]) ∧ Bel w w' := by
 obtain ⟨sa, cap, rfl, hx⟩ := h
 have h : SV w (.slice sa ss.length cap) ss := ⟨sa, cap, rfl, hx⟩
 obtain ⟨s1, d1, rfl, hS'⟩ := hS
 obtain ⟨s2, d2, rfl, hT'⟩ := hT
 have hS : Ints w (.slice s1 xs.length d1) xs := ⟨s1, d1, rfl, hS'⟩
 have hT : Ints w (.slice s2 sv.length d2) sv := ⟨s2, d2, rfl, hT'⟩
 have BX := SBy.start w (.slice sa ss.length cap) [.int .i64 m, .slice s1 xs.length d1, .slice s2 sv.length d2, .int .i64 off]
 have HB := hide BX
 have b0 := BX.h
 have a0 := BX.a 0 _ rfl
 have a1 := BX.a 1 _ rfl
 have a2 := BX.a 2 _ rfl
 have a3 := BX.a 3 _ rfl
 have HLA := hide (zi13 (fr := fr) (h.keep BX.bl) m off hm h8 (zp hS BX.bl) (zp hT BX.bl) lx ls)
 generalize lastC xs sv off fr to = c at HLA hne ⊢
 have hnb : (c == 0) = false := by rw [beq_eq_false_iff_ne]; exact hne
 clear BX hx hS hT hS' hT' h h8
 go_enter Tryz.func31, Tryz.ntmps31
 go_wp2_with fail
 refine HLA.out.mono ?_
 rintro e w1 ⟨rfl, b1⟩
 have HB1 := hide (HB.out.keep b1)
 have r0 := HB1.out.r0
 have r1 := HB1.out.r1
 have f0 := HB1.out.fz 0
 have f1 := HB1.out.fz 1
 clear b1 HLA HB b0 a0 a1 a2 a3
 go_wp2
 refine bodyPost_ret (v := .agg #[.int .i64 c, .slice none 0 0]) (by simp [results, Tryz.results31, go_sem, r0, r1]) rfl ⟨rfl, ?_⟩
 first
  | exact (HB1.out.bl.setCell (p := ⟨w.heap.size + 1 + 1, 0, none⟩) (by show _ ≤ w.heap.size + 1 + 1; omega) _).setCell (p := ⟨w.heap.size + 1 + 1, 1, none⟩) (by show _ ≤ w.heap.size + 1 + 1; omega) _
  | exact HB1.out.bl.setCell (p := ⟨w.heap.size + 1 + 1, 0, none⟩) (by show _ ≤ w.heap.size + 1 + 1; omega) _
end
section
open List renaming setIfInBounds_toArray → sT, set_cons_zero → sZ, set_cons_succ → sS
open Go.ChangeShapes Go.RowKit FL
theorem zb12 {dt : Int} (h : isDtB dt = true) : castL dt dt 1 = true := by
 have h := of_decide_eq_true h
 rcases (show dt = 1 ∨ dt = 2 ∨ dt = 3 ∨ dt = 4 ∨ dt = 5 ∨ dt = 6 ∨ dt = 7 ∨ dt = 8 ∨ dt = 9 by omega) with rfl | rfl | rfl | rfl | rfl | rfl | rfl | rfl | rfl <;> decide
theorem zh4 {w : World} {v va : Value} {ss : List St} {a : Ar} (ax : Int) (h : SV w v ss) (hg : SG ss) (hl : SL ss 1048576) (ha : AV w va a) :
  Calls Tryz.prog 19 #[.agg #[v], va, .int .i64 ax] w fun e w' => SsoOk w ss a ax e w' := by
 obtain ⟨sa, cap, rfl, hx⟩ := h
 have h : SV w (.slice sa ss.length cap) ss := ⟨sa, cap, rfl, hx⟩
 obtain ⟨p1, c1, q1, d1, rfl, ia1, ia2, la⟩ := ha
 have BX0 := SBy.start w (.slice sa ss.length cap) [.int .i64 a.st, .slice p1 a.xs.length c1, .slice q1 a.sv.length d1, .int .i64 a.off]
 have AR := arow1 (B := w.heap.size + 3) (W := (((w.alloc (.cells #[.slice sa ss.length cap] 34)).alloc (.cells #[.int .i64 a.st, .slice p1 a.xs.length c1, .slice q1 a.sv.length d1, .int .i64 a.off] 41)).alloc (.cells #[.int .i64 0, .slice none 0 0] 36))) (by simp) ia1 ia2 BX0.bl
 have HH := hide h
 have xr : Ext (((w.alloc (.cells #[.slice sa ss.length cap] 34)).alloc (.cells #[.int .i64 a.st, .slice p1 a.xs.length c1, .slice q1 a.sv.length d1, .int .i64 a.off] 41)).alloc (.cells #[.int .i64 0, .slice none 0 0] 36)) (((((w.alloc (.cells #[.slice sa ss.length cap] 34)).alloc (.cells #[.int .i64 a.st, .slice p1 a.xs.length c1, .slice q1 a.sv.length d1, .int .i64 a.off] 41)).alloc (.cells #[.int .i64 0, .slice none 0 0] 36))).alloc (.cells #[.int .i64 a.st, .slice p1 a.xs.length c1, .slice q1 a.sv.length d1, .int .i64 a.off] 41)) := (Ext.refl _).alloc _ _
 have HF := hide (zk13 (o := 0) (cp := 1) (h.keep (Bel.tr BX0.bl xr.bl)) hg hl AR (fun x hx => by simp at hx; subst hx; exact la) (by simp))
 have HB0 := hide (BX0.keep xr.bl)
 have b0 := BX0.h
 have a0 := BX0.a 0 _ rfl
 have a1 := BX0.a 1 _ rfl
 have a2 := BX0.a 2 _ rfl
 have a3 := BX0.a 3 _ rfl
 have I1 := hide ia1
 have I2 := hide ia2
 have HG := hide hg
 have HL := hide hl
 clear AR BX0 xr hx h ia1 ia2 hg hl
 go_enter Tryz.func19, Tryz.ntmps19
 go_wp2_with fail
 refine HF.out.mono ?_
 rintro e w1 ⟨rfl, b1⟩
 have HB1 := hide (HB0.out.keep b1)
 clear b1 HF HB0 b0 a0 a1 a2 a3
 have b0 := HB1.out.h
 have a0 := HB1.out.a 0 _ rfl
 have a1 := HB1.out.a 1 _ rfl
 have a2 := HB1.out.a 2 _ rfl
 have a3 := HB1.out.a 3 _ rfl
 have r0 := HB1.out.r0
 have r1 := HB1.out.r1
 have f0 := HB1.out.fz 0
 have f1 := HB1.out.fz 1
 generalize hfe : firstL ss [a] = fc
 by_cases hfc : fc ≠ 0
 ·have hok : Hid (fc = sortC ss a ax) := by show fc = _; unfold sortC; rw [hfe, if_pos hfc]
  have hne : (fc == 0) = false := by rw [beq_eq_false_iff_ne]; exact hfc
  go_wp2
  refine bodyPost_ret (v := .agg #[.int .i64 fc, .slice none 0 0]) (by simp [results, Tryz.results19, go_sem, r0, r1]) rfl ⟨fc, _, [], rfl, ⟨hok.out, .inl ⟨hfc, rfl⟩⟩, .inl ⟨rfl, rfl⟩, by (first | exact (HB1.out.bl.setCell (p := ⟨w.heap.size + 1 + 1, 0, none⟩) (by show _ ≤ w.heap.size + 1 + 1; omega) _).setCell (p := ⟨w.heap.size + 1 + 1, 1, none⟩) (by show _ ≤ w.heap.size + 1 + 1; omega) _ | exact HB1.out.bl.setCell (p := ⟨w.heap.size + 1 + 1, 0, none⟩) (by show _ ≤ w.heap.size + 1 + 1; omega) _)⟩
 have hfc0 : fc = 0 := by omega
 subst hfc0
 obtain ⟨hvh, hga⟩ := zn11 hfe
 have hc5 : Hid ((ax < 0 ∨ (a.xs.length : Int) ≤ ax) → 5 = sortC ss a ax) := fun q => by unfold sortC; rw [hfe, if_neg (by simp), if_pos q]
 have hc9 : Hid (¬ (ax < 0 ∨ (a.xs.length : Int) ≤ ax) → sortC ss a ax = if WrV a.xs a.sv a.off then 0 else 9) := fun q => by unfold sortC; rw [hfe, if_neg (by simp), if_neg q]
 clear hfe hfc
 by_cases hx0 : ax < 0
 ·have hd0 : decide (ax < 0) = true := decide_eq_true hx0
  have hok := hide (hc5.out (Or.inl hx0))
  clear hc5 hc9
  go_wp2
  refine bodyPost_ret (v := .agg #[.int .i64 5, .slice none 0 0]) (by simp [results, Tryz.results19, go_sem, r0, r1]) rfl ⟨5, _, [], rfl, ⟨hok.out, .inl ⟨by omega, rfl⟩⟩, .inl ⟨rfl, rfl⟩, by (first | exact (HB1.out.bl.setCell (p := ⟨w.heap.size + 1 + 1, 0, none⟩) (by show _ ≤ w.heap.size + 1 + 1; omega) _).setCell (p := ⟨w.heap.size + 1 + 1, 1, none⟩) (by show _ ≤ w.heap.size + 1 + 1; omega) _ | exact HB1.out.bl.setCell (p := ⟨w.heap.size + 1 + 1, 0, none⟩) (by show _ ≤ w.heap.size + 1 + 1; omega) _)⟩
 have hd0 : decide (ax < 0) = false := decide_eq_false hx0
 by_cases hx1 : (a.xs.length : Int) ≤ ax
 ·have hd1 : decide ((a.xs.length : Int) ≤ ax) = true := decide_eq_true hx1
  have hok := hide (hc5.out (Or.inr hx1))
  clear hc5 hc9
  go_wp2
  refine bodyPost_ret (v := .agg #[.int .i64 5, .slice none 0 0]) (by simp [results, Tryz.results19, go_sem, r0, r1]) rfl ⟨5, _, [], rfl, ⟨hok.out, .inl ⟨by omega, rfl⟩⟩, .inl ⟨rfl, rfl⟩, by (first | exact (HB1.out.bl.setCell (p := ⟨w.heap.size + 1 + 1, 0, none⟩) (by show _ ≤ w.heap.size + 1 + 1; omega) _).setCell (p := ⟨w.heap.size + 1 + 1, 1, none⟩) (by show _ ≤ w.heap.size + 1 + 1; omega) _ | exact HB1.out.bl.setCell (p := ⟨w.heap.size + 1 + 1, 0, none⟩) (by show _ ≤ w.heap.size + 1 + 1; omega) _)⟩
 have hd1 : decide ((a.xs.length : Int) ≤ ax) = false := decide_eq_false hx1
 have HC9 := hide (hc9.out (by omega))
 clear hc5 hc9
 obtain ⟨hdt, hok⟩ := heap_ok hvh HG.out hga
 have HOK := hide hok
 have HT := hide (fun W (x : Bel w W) => za4 (vS := .slice p1 a.xs.length c1) (vT := .slice q1 a.sv.length d1) (HH.out.keep x) a.st a.off hga.1.1 hga.1.2)
 have HRD := hide (fun W (x : Bel w W) => l4Read_any (HH.out.keep x) HL.out a.st (zp I1.out x) (zp I2.out x) a.off hga)
 have hdd : Hid (a.dt ss = (ss.getD a.st.toNat s0).1) := rfl
 rw [← hdd.out] at HT
 have hrr : Hid (a.rd ss = readL ss a.st a.xs a.sv a.off) := rfl
 rw [← hrr.out] at HRD
 have hn4 : (a.rd ss).length ≤ 4096 := by rw [hrr.out]; unfold readL; rw [List.length_map]; exact zr4 hga.2.1
 have HGA := hide hga
 obtain ⟨X, hX⟩ : ∃ X, X = a.rd ss := ⟨_, rfl⟩
 obtain ⟨dt, hDT⟩ : ∃ dt, dt = a.dt ss := ⟨_, rfl⟩
 have HX := hide hX
 have HDT := hide hDT
 rw [← hX] at HRD hn4 HOK
 rw [← hDT] at HT HOK hdt
 clear hX hDT hok hga hvh hrr hdd
 go_wp2_with fail
 refine (HT.out _ HB1.out.bl).mono ?_
 rintro e w2 ⟨rfl, x2⟩
 have HB2 := hide (HB1.out.keep x2.bl)
 clear x2 b0 a0 a1 a2 a3 r0 r1 f0 f1 HT
 have b0 := HB2.out.h
 have a0 := HB2.out.a 0 _ rfl
 have a1 := HB2.out.a 1 _ rfl
 have a2 := HB2.out.a 2 _ rfl
 have a3 := HB2.out.a 3 _ rfl
 have r0 := HB2.out.r0
 have r1 := HB2.out.r1
 have f0 := HB2.out.fz 0
 have f1 := HB2.out.fz 1
 go_wp2_with fail
 refine (HRD.out _ HB2.out.bl).mono ?_
 rintro e w3 ⟨sx, cx, rfl, hox, b3⟩
 have HB3 := hide (HB2.out.keep b3)
 have HOX := hide hox
 clear hox b3 b0 a0 a1 a2 a3 r0 r1 f0 f1 HRD
 have b0 := HB3.out.h
 have a0 := HB3.out.a 0 _ rfl
 have a1 := HB3.out.a 1 _ rfl
 have a2 := HB3.out.a 2 _ rfl
 have a3 := HB3.out.a 3 _ rfl
 have r0 := HB3.out.r0
 have r1 := HB3.out.r1
 have f0 := HB3.out.fz 0
 have f1 := HB3.out.fz 1
 have hmk := ze13 w3 X.length hn4
 have xm : Ext w3 (w3.alloc (.cells (madeCells #[.int .i64 0, .float .f64 0, .float .f64 0] (X.length * 3)) 66)) := (Ext.refl w3).alloc _ _
 have HS5 : Hid (SoI (w3.alloc (.cells (madeCells #[.int .i64 0, .float .f64 0, .float .f64 0] (X.length * 3)) 66)) w3.heap.size X.length (List.replicate X.length k0) (w3.alloc (.cells (madeCells #[.int .i64 0, .float .f64 0, .float .f64 0] (X.length * 3)) 66))) := ⟨crow_made w3 X.length, by simp, fun o => xm.unfrozen (Nat.le_refl _) o, MuB.refl _ _, by simp⟩
 have HB5 := hide (HB3.out.keep xm.bl)
 have hcB := HB3.out.sz
 have HXR : Hid (X = [] ∨ ∃ g, sx = some ⟨g, 0, none⟩ ∧ g < w3.heap.size ∧ CRow (w3.alloc (.cells (madeCells #[.int .i64 0, .float .f64 0, .float .f64 0] (X.length * 3)) 66)) g 0 X) := by
  rcases HOX.out with z | ⟨g', e1, e2, e3, e4⟩
  ·exact Or.inl z
  ·by_cases z : X = []
   ·exact Or.inl z
   ·exact Or.inr ⟨g', e1, zj (e3 0 (List.length_pos_iff.2 z)).1, e3.keep xm.bl⟩
 clear xm HOX
 go_wp2_with fail
 generalize w3.alloc (.cells (madeCells #[.int .i64 0, .float .f64 0, .float .f64 0] (X.length * 3)) 66) = W5 at HS5 HB5 HXR ⊢
 clear hmk b0 a0 a1 a2 a3 r0 r1 f0 f1
 go_loopw [11] (fun kk wr => ∃ (k : Nat) (C : List C3), kk = .int .i64 k ∧ k ≤ X.length ∧ SoI W5 w3.heap.size X.length C wr ∧ (0 < X.length → Dn X.length a.xs ax.toNat (srtQ dt X a.xs ax.toNat) (OkC dt) k C)) (fun kk _ => X.length - (intOf kk).toNat)
 case atStart =>
  refine ⟨0, _, rfl, by omega, HS5.out, fun _ => ⟨by simp, fun q _ hlt => absurd hlt (by omega)⟩⟩
 case round =>
  obtain ⟨k, C, rfl, hk, hI, hD⟩ := hrel
  have HI := hide hI
  have HD := hide hD
  clear hI hD HS5
  by_cases hlt : k < X.length
  ·have hdk : decide ((k : Int) < (X.length : Int)) = true := decide_eq_true (by omega)
   have HBr := hide (HB5.out.mu HI.out.mu hcB)
   have b0 := HBr.out.h
   have a0 := HBr.out.a 0 _ rfl
   have a1 := HBr.out.a 1 _ rfl
   have a2 := HBr.out.a 2 _ rfl
   have a3 := HBr.out.a 3 _ rfl
   have r0 := HBr.out.r0
   have r1 := HBr.out.r1
   have f0 := HBr.out.fz 0
   have f1 := HBr.out.fz 1
   have hlen : X.length = (offsL a.xs a.sv a.off).length := by rw [HX.out]; unfold Ar.rd readL; rw [List.length_map]
   have hcnt := zw HGA.out.2.1
   have hz : prod a.xs ≠ 0 := fun e => by
    rw [e] at hcnt
    have : (0 : Int).toNat = 0 := rfl
    omega
   have hp : ∀ n ∈ a.xs, 1 ≤ n := fun n hn => (zd1 HGA.out.2.1.1 hz n hn).1
   have hpg : ∀ i, i < a.xs.length → 0 < a.xs.getD i 0 ∧ a.xs.getD i 0 ≤ 4096 := fun i hi => by
    have := zd2 (fun n hn => zd1 HGA.out.2.1.1 hz n hn) i hi
    omega
   have hx4 := HGA.out.2.1.1.1
   have hpl : X.length = plen a.xs := by
    have q3 := zr (fun n hn => by have := hp n hn; omega : ∀ n ∈ a.xs, 0 ≤ n)
    omega
   obtain ⟨m, hm⟩ : ∃ m : Nat, ax = (m : Int) := ⟨ax.toNat, by omega⟩
   subst hm
   have hml : m < a.xs.length := by omega
   rw [Int.toNat_natCast] at HD ⊢
   obtain ⟨b1, o1, e1, hr1⟩ : ∃ b1 o1, p1 = some ⟨b1, o1, none⟩ ∧ Row w b1 o1 a.xs := by
    obtain ⟨s', c', e', hr⟩ := I1.out
    injection e' with e1 e2 e3
    rcases hr with z | ⟨b', o', e4, hr⟩
    ·rw [z] at hml; simp at hml
    ·exact ⟨b', o', e1.trans e4, hr⟩
   subst e1
   have hb1 := zj (hr1 m hml)
   have HR1 : Hid (∀ W, Bel w W → Row W b1 o1 a.xs ∧ b1 < W.heap.size) := fun W x => ⟨fun j hj => Bel.box x (hr1 j hj), Nat.lt_of_lt_of_le hb1 x.size⟩
   obtain ⟨K, hK⟩ : ∃ K : Nat, K = (a.xs.getD m 0).toNat := ⟨_, rfl⟩
   have hKK : a.xs.getD m 0 = (K : Int) := by have := hpg m hml; omega
   have hKp : 0 < K := by have := hpg m hml; omega
   have hK4 : K ≤ 4096 := by have := hpg m hml; omega
   have HIX := hide (zb7 (cap := c1) (HR1.out wr HBr.out.bl).1 (HR1.out wr HBr.out.bl).2 (k : Int) ⟨by omega, by omega⟩ hpg hx4)
   rw [ix_idx hp hx4] at HIX
   have HP := hide hp
   have HPG := hide hpg
   have HPL := hide hpl
   have HKE := hide hK
   have HKK := hide hKK
   have hm0 : (0 : Int) ≤ (m : Int) := Int.natCast_nonneg _
   have hm1 : (m : Int) < (a.xs.length : Int) := by omega
   clear hlen hcnt hp hpg hpl hr1 hK hKK
   go_wp2_with fail
   refine HIX.out.mono ?_
   rintro e w6 ⟨IB, rfl, hib, hib2, hri, x6⟩
   have qi := hri m (by rw [zc2]; exact hml)
   rw [Nat.zero_add] at qi
   have HB6 := hide (HBr.out.keep x6.bl)
   have HI6 := hide (HI.out.bel x6.bl)
   have hiv := ix_bd HP.out hml k
   have HSK : Hid ((idxL a.xs k).getD m 0 ≠ 0 → Dn X.length a.xs m (srtQ dt X a.xs m) (OkC dt) (k + 1) C) := fun q => by
    have := HD.out (by omega)
    rw [HPL.out] at this ⊢
    exact this.skip HP.out hml q
   have HIV : Hid ((idxL a.xs k).getD m 0 = 0 → atN a.xs m k 0 = k) := fun q => by
    have := at_self HP.out hml (show k < plen a.xs by have := HPL.out; omega)
    rw [q] at this
    exact this
   generalize (idxL a.xs k).getD m 0 = iv at qi hiv HSK HIV
   clear hri x6 HIX b0 a0 a1 a2 a3 r0 r1 f0 f1
   by_cases hi0 : iv ≠ 0
   ·have hne : (iv == 0) = false := by rw [beq_eq_false_iff_ne]; exact hi0
    have HDN := hide (HSK.out hi0)
    clear HSK HIV hi0
    go_wp2_with fail
    go_roundw
    ·exact ⟨k + 1, C, by go_num, by omega, HI6.out, fun _ => HDN.out⟩
    ·simp [intOf]; omega
   have hi0 : iv = 0 := by omega
   subst hi0
   have HAT := hide (HIV.out rfl)
   clear HSK HIV
   have b0 := HB6.out.h
   have a0 := HB6.out.a 0 _ rfl
   have a1 := HB6.out.a 1 _ rfl
   have a2 := HB6.out.a 2 _ rfl
   have a3 := HB6.out.a 3 _ rfl
   have r0 := HB6.out.r0
   have r1 := HB6.out.r1
   have f0 := HB6.out.fz 0
   have f1 := HB6.out.fz 1
   have HLN := hide (l5Lane_any (cap := c1) (HR1.out w6 HB6.out.bl).1 (HR1.out w6 HB6.out.bl).2 hml (k : Int) ⟨by omega, by omega⟩ HPG.out hx4 HKK.out)
   go_wp2_with fail
   refine HLN.out.mono ?_
   rintro e w7 ⟨vA, rfl, hoA, bA⟩
   obtain ⟨gA, cA, rfl, hgA⟩ := own_g hoA hKp
   have hLA : Row w7 gA 0 ((List.range K).map fun i => ((atN a.xs m k i : Nat) : Int)) := by
    refine (zf8 (n := K) (cap := cA) (base := w6.heap.size) ?_).1
    have e : ((List.range K).map fun i => ((atN a.xs m k i : Nat) : Int)).map (Value.int .i64) = lnV a.xs m (k : Int) K := by
     unfold lnV
     rw [List.map_map]
     refine List.map_congr_left fun i hi => ?_
     have := lnN_at HP.out hx4 (ax := m) (i := i) (by rw [← HKE.out]; exact List.mem_range.1 hi) k
     simp only [Function.comp]
     rw [this]
    rw [e]; exact hoA
   have hll : ((List.range K).map fun i => ((atN a.xs m k i : Nat) : Int)).length = K := by simp
   have hla : ∀ i, i < K → ((List.range K).map fun i => ((atN a.xs m k i : Nat) : Int)).getD i 0 = ((atN a.xs m k i : Nat) : Int) := fun i hi => by simp [List.getD_eq_getElem?_getD, hi]
   have hlt2 : ∀ i, i < K → atN a.xs m k i < X.length := fun i hi => by
    have := at_lt HP.out (ax := m) (i := i) (by rw [← HKE.out]; exact hi) k
    have := HPL.out
    omega
   have hgA7 := zj (hLA 0 (by rw [hll]; exact hKp))
   have HB7 := hide (HB6.out.keep bA)
   have HI7 := hide (HI6.out.bel bA)
   obtain ⟨gX, e2, hgX, hrX⟩ := HXR.out.resolve_left (fun e => by rw [e] at hlt; simp at hlt)
   subst e2
   have HRX : Hid (∀ W, MuB w3.heap.size W5 W → CV W (.slice (some ⟨gX, 0, none⟩) X.length cx) X) := fun W x => ⟨_, _, rfl, Or.inr ⟨gX, 0, rfl, fun j hj => ⟨x.box (by omega) (hrX j hj).1, x.box (by omega) (hrX j hj).2.1, x.box (by omega) (hrX j hj).2.2⟩⟩⟩
   have HPK := hide (l5Pick_any (cw := cA) (HRX.out w7 HI7.out.mu) hLA hdt (fun j hj => by rw [hll] at hj; rw [hla j hj]; have := hlt2 j hj; omega) HOK.out (by rw [hll]; exact hK4))
   rw [hll] at HPK
   have HLA := hide hLA
   have hw56 := HI6.out.mu.size
   have hcl := HI6.out.lt
   have hgA6 : w6.heap.size ≤ gA := hgA
   clear hoA hLA hrX HLN bA hiv b0 a0 a1 a2 a3 r0 r1 f0 f1
   have b0 := HB7.out.h
   have a0 := HB7.out.a 0 _ rfl
   have a1 := HB7.out.a 1 _ rfl
   have a2 := HB7.out.a 2 _ rfl
   have a3 := HB7.out.a 3 _ rfl
   have r0 := HB7.out.r0
   have r1 := HB7.out.r1
   have f0 := HB7.out.fz 0
   have f1 := HB7.out.fz 1
   go_wp2_with fail
   refine HPK.out.mono ?_
   rintro e w8 ⟨vL, P, rfl, hpk⟩
   obtain ⟨gL, cL, rfl, hgL, hgL8, hcf⟩ := pk_cf hpk hKp
   have HB8 := hide (HB7.out.keep hpk.bl)
   have HI8 := hide (HI7.out.bel hpk.bl)
   have HA8 : Hid (∀ i, i < K → w8.cell? ⟨gA, i, none⟩ = some (.int .i64 (atN a.xs m k i))) := fun i hi => by
    have := Bel.box hpk.bl (HLA.out i (by rw [hll]; exact hi))
    rw [Nat.zero_add, hla i hi] at this
    exact this
   have HSM : Hid (∀ i, i < K → C3.Sm (P.getD i k0) (laneC X a.xs m k i) ∧ OkC dt (P.getD i k0)) := fun i hi => by
    have := hpk.sm i hi
    rw [hla i hi, Int.toNat_natCast] at this
    exact this
   have hw67 := hpk.bl.size
   have HOR := hide (zh13 (cap := cL) hcf hgL8 (fun i hi => (HSM.out i hi).2) hK4)
   have HCF := hide hcf
   clear hpk hcf HPK HLA b0 a0 a1 a2 a3 r0 r1 f0 f1
   go_wp2_with fail
   refine HOR.out.mono ?_
   rintro e w9 ⟨gO, rfl, hgO, hrO, x9⟩
   have HB9 := hide (HB8.out.keep x9.bl)
   have HI9 := hide (HI8.out.bel x9.bl)
   have HOE : Hid (ordL (fun i => P.getD i k0) dt K K = ordL (laneC X a.xs m k) dt K K) := zs6 (fun i j hi hj => befC_sm (HSM.out i hi).2 (HSM.out j hj).2 (HOK.out _ (hlt2 i hi)) (HOK.out _ (hlt2 j hj)) (HSM.out i hi).1 (HSM.out j hj).1) K (Nat.le_refl _)
   rw [HOE.out] at hrO
   have HO9 := hide hrO
   have HA9 : Hid (∀ i, i < K → w9.cell? ⟨gA, i, none⟩ = some (.int .i64 (atN a.xs m k i))) := fun i hi => x9.box (HA8.out i hi)
   have HC9' := hide (HCF.out.ext x9)
   have hw89 := x9.bl.size
   have hD0 : Hid (Dl X.length a.xs m (srtQ dt X a.xs m) (OkC dt) k 0 C) := (HD.out (by omega)).lane
   clear hrO x9 HOR HOE HCF HA8
   go_wp2_with fail
   go_loopw [15] (fun ii wq => ∃ (i : Nat) (C' : List C3), ii = .int .i64 i ∧ i ≤ K ∧ SoI W5 w3.heap.size X.length C' wq ∧ MuB w3.heap.size w9 wq ∧ Dl X.length a.xs m (srtQ dt X a.xs m) (OkC dt) k i C') (fun ii _ => K - (intOf ii).toNat)
   case atStart => exact ⟨0, C, rfl, by omega, HI9.out, MuB.refl _ _, hD0.out⟩
   case round =>
    obtain ⟨i, C', rfl, hi, hI', hM', hD'⟩ := hrel
    have HI' := hide hI'
    have HM' := hide hM'
    have HD' := hide hD'
    clear hI' hM' hD'
    by_cases hiK : i < K
    ·have hdi : decide ((i : Int) < (K : Int)) = true := decide_eq_true (by omega)
     have qa := HM'.out.box (by omega) (HA9.out i hiK)
     have hob := zt6 (laneC X a.xs m k) dt hKp K (Nat.le_refl _) i
     have qo := HM'.out.box (by omega) (HO9.out i (by rw [zx5]; exact hiK))
     rw [Nat.zero_add] at qo
     have hst := srtQ_at HP.out dt X hml (i := i) (by rw [← HKE.out]; exact hiK) k
     rw [← HKE.out] at hst
     have HST := hide hst
     have hatl := hlt2 i hiK
     obtain ⟨ov, hov⟩ : ∃ ov : Nat, (ordL (laneC X a.xs m k) dt K K).getD i 0 = (ov : Int) := ⟨((ordL (laneC X a.xs m k) dt K K).getD i 0).toNat, by omega⟩
     rw [hov] at qo hob HST
     rw [Int.toNat_natCast] at HST
     have hovK : ov < K := by omega
     obtain ⟨l0, l1, l2⟩ := HC9'.out ov hovK
     dsimp only at l0 l1 l2
     have l0 := HM'.out.box (by omega) l0
     have l1 := HM'.out.box (by omega) l1
     have l2 := HM'.out.box (by omega) l2
     rw [Nat.zero_add] at l0 l1 l2
     have hsm := HSM.out ov hovK
     generalize hatv : atN a.xs m k i = atv at qa hatl HST
     have HATV := hide hatv
     obtain ⟨y0, y1, y2⟩ := HI'.out.row atv (by rw [HI'.out.len]; exact hatl)
     rw [Nat.zero_add] at y0 y1 y2
     have fy := HI'.out.fz
     have g0 := fy (atv * 3)
     have g1 := fy (atv * 3 + 1)
     have g2 := fy (atv * 3 + 2)
     have HSET := hide (SoI.set (HI'.out.bel (show Bel wr wr.drew from (Below.refl _ _).drew)) hatl (P.getD ov k0))
     have HMU : Hid (MuB w3.heap.size w9 (setC wr.drew w3.heap.size (atv * 3) (P.getD ov k0))) := (((HM'.out.bel (show Bel wr wr.drew from (Below.refl _ _).drew)).set _ _).set _ _).set _ _
     have HDS : Hid (Dl X.length a.xs m (srtQ dt X a.xs m) (OkC dt) k (i + 1) (C'.set atv (P.getD ov k0))) := by
      have q := HD'.out
      have e := HPL.out
      rw [e] at q ⊢
      rw [← HATV.out]
      refine q.step (by rw [HATV.out]; omega) ⟨?_, hsm.2⟩
      rw [HATV.out, HST.out]
      exact hsm.1
     generalize P.getD ov k0 = cc at l0 l1 l2 HSET HMU HDS
     obtain ⟨ci, cf, cg⟩ := cc
     simp only at l0 l1 l2
     have b1' : (0 : Int) ≤ (i : Int) := Int.natCast_nonneg _
     have b2' : (i : Int) < (K : Int) := by omega
     have b3' : (0 : Int) ≤ (atv : Int) := Int.natCast_nonneg _
     have b4' : (atv : Int) < (X.length : Int) := by omega
     have b5' : (0 : Int) ≤ (ov : Int) := Int.natCast_nonneg _
     have b6' : (ov : Int) < (K : Int) := by omega
     have SA : Hid ((fun w' : World => w'.cell? ⟨gA, i, none⟩ = some (.int .i64 atv) ∧ w'.cell? ⟨gO, i, none⟩ = some (.int .i64 ov) ∧ w'.cell? ⟨gL, ov * 3, none⟩ = some (.int .i64 ci) ∧ w'.cell? ⟨gL, ov * 3 + 1, none⟩ = some (.float .f64 cf) ∧ w'.cell? ⟨gL, ov * 3 + 2, none⟩ = some (.float .f64 cg)) wr.drew) := ⟨qa, qo, l0, l1, l2⟩
     clear hov hob hatv hsm hst HST
     go_wp2_with fail
     refine zj3 (S := (fun w' : World => w'.cell? ⟨gA, i, none⟩ = some (.int .i64 atv) ∧ w'.cell? ⟨gO, i, none⟩ = some (.int .i64 ov) ∧ w'.cell? ⟨gL, ov * 3, none⟩ = some (.int .i64 ci) ∧ w'.cell? ⟨gL, ov * 3 + 1, none⟩ = some (.float .f64 cf) ∧ w'.cell? ⟨gL, ov * 3 + 2, none⟩ = some (.float .f64 cg))) (late := [13]) (by kernel_rfl) ?_
     refine zd (i := 0) (d := 82) (v := .slice (some ⟨w3.heap.size, 0, none⟩) X.length X.length) rfl (by rfl) (by kernel_rfl) (by kernel_rfl) (fun _ _ _ h => by cases h.1) _ (by kernel_rfl) (by kernel_rfl) (Or.inl ⟨by kernel_rfl, ?_⟩) SA.out ?_
     ·intro w' h
      obtain ⟨z0, z1, z2, z3, z4⟩ := h
      go_simp
     simp only [Act.put, sT, sZ, sS]
     refine zd (i := 1) (d := 83) (v := .slice (some ⟨gA, 0, none⟩) K cA) rfl (by rfl) (by kernel_rfl) (by kernel_rfl) (fun _ _ _ h => by cases h.1) _ (by kernel_rfl) (by kernel_rfl) (Or.inl ⟨by kernel_rfl, ?_⟩) SA.out ?_
     ·intro w' h
      obtain ⟨z0, z1, z2, z3, z4⟩ := h
      go_simp
     simp only [Act.put, sT, sZ, sS]
     refine zd (i := 2) (d := 84) (v := .int .i64 i) rfl (by rfl) (by kernel_rfl) (by kernel_rfl) (fun _ _ _ h => by cases h.1) _ (by kernel_rfl) (by kernel_rfl) (Or.inl ⟨by kernel_rfl, ?_⟩) SA.out ?_
     ·intro w' h
      obtain ⟨z0, z1, z2, z3, z4⟩ := h
      go_simp
     simp only [Act.put, sT, sZ, sS]
     refine zd (i := 3) (d := 85) (v := .pointer (some ⟨gA, i, none⟩)) rfl (by rfl) (by kernel_rfl) (by kernel_rfl) (fun _ _ _ h => by cases h.1) _ (by kernel_rfl) (by kernel_rfl) (Or.inl ⟨by kernel_rfl, ?_⟩) SA.out ?_
     ·intro w' h
      obtain ⟨z0, z1, z2, z3, z4⟩ := h
      go_simp
     simp only [Act.put, sT, sZ, sS]
     refine zd (i := 4) (d := 86) (v := .int .i64 atv) rfl (by rfl) (by kernel_rfl) (by kernel_rfl) (fun _ _ _ h => by cases h.1) _ (by kernel_rfl) (by kernel_rfl) (Or.inl ⟨by kernel_rfl, ?_⟩) SA.out ?_
     ·intro w' h
      obtain ⟨z0, z1, z2, z3, z4⟩ := h
      go_simp
     simp only [Act.put, sT, sZ, sS]
     refine zd (i := 5) (d := 87) (v := .slice (some ⟨gL, 0, none⟩) K cL) rfl (by rfl) (by kernel_rfl) (by kernel_rfl) (fun _ _ _ h => by cases h.1) _ (by kernel_rfl) (by kernel_rfl) (Or.inl ⟨by kernel_rfl, ?_⟩) SA.out ?_
     ·intro w' h
      obtain ⟨z0, z1, z2, z3, z4⟩ := h
      go_simp
     simp only [Act.put, sT, sZ, sS]
     refine zd (i := 6) (d := 88) (v := .slice (some ⟨gO, 0, none⟩) K K) rfl (by rfl) (by kernel_rfl) (by kernel_rfl) (fun _ _ _ h => by cases h.1) _ (by kernel_rfl) (by kernel_rfl) (Or.inl ⟨by kernel_rfl, ?_⟩) SA.out ?_
     ·intro w' h
      obtain ⟨z0, z1, z2, z3, z4⟩ := h
      go_simp
     simp only [Act.put, sT, sZ, sS]
     refine zd (i := 7) (d := 89) (v := .int .i64 i) rfl (by rfl) (by kernel_rfl) (by kernel_rfl) (fun _ _ _ h => by cases h.1) _ (by kernel_rfl) (by kernel_rfl) (Or.inl ⟨by kernel_rfl, ?_⟩) SA.out ?_
     ·intro w' h
      obtain ⟨z0, z1, z2, z3, z4⟩ := h
      go_simp
     simp only [Act.put, sT, sZ, sS]
     refine zd (i := 8) (d := 90) (v := .pointer (some ⟨gO, i, none⟩)) rfl (by rfl) (by kernel_rfl) (by kernel_rfl) (fun _ _ _ h => by cases h.1) _ (by kernel_rfl) (by kernel_rfl) (Or.inl ⟨by kernel_rfl, ?_⟩) SA.out ?_
     ·intro w' h
      obtain ⟨z0, z1, z2, z3, z4⟩ := h
      go_simp
     simp only [Act.put, sT, sZ, sS]
     refine zd (i := 9) (d := 91) (v := .int .i64 ov) rfl (by rfl) (by kernel_rfl) (by kernel_rfl) (fun _ _ _ h => by cases h.1) _ (by kernel_rfl) (by kernel_rfl) (Or.inl ⟨by kernel_rfl, ?_⟩) SA.out ?_
     ·intro w' h
      obtain ⟨z0, z1, z2, z3, z4⟩ := h
      go_simp
     simp only [Act.put, sT, sZ, sS]
     refine zd (i := 10) (d := 92) (v := .pointer (some ⟨gL, ov * 3, none⟩)) rfl (by rfl) (by kernel_rfl) (by kernel_rfl) (fun _ _ _ h => by cases h.1) _ (by kernel_rfl) (by kernel_rfl) (Or.inl ⟨by kernel_rfl, ?_⟩) SA.out ?_
     ·intro w' h
      obtain ⟨z0, z1, z2, z3, z4⟩ := h
      go_simp
     simp only [Act.put, sT, sZ, sS]
     refine zd (i := 11) (d := 93) (v := .agg #[.int .i64 ci, .float .f64 cf, .float .f64 cg]) rfl (by rfl) (by kernel_rfl) (by kernel_rfl) (fun _ _ _ h => by cases h.1) _ (by kernel_rfl) (by kernel_rfl) (Or.inl ⟨by kernel_rfl, ?_⟩) SA.out ?_
     ·intro w' h
      obtain ⟨z0, z1, z2, z3, z4⟩ := h
      go_simp
     simp only [Act.put, sT, sZ, sS]
     refine zd (i := 12) (d := 94) (v := .pointer (some ⟨w3.heap.size, atv * 3, none⟩)) rfl (by rfl) (by kernel_rfl) (by kernel_rfl) (fun _ _ _ h => by cases h.1) _ (by kernel_rfl) (by kernel_rfl) (Or.inl ⟨by kernel_rfl, ?_⟩) SA.out ?_
     ·intro w' h
      obtain ⟨z0, z1, z2, z3, z4⟩ := h
      go_simp
     simp only [Act.put, sT, sZ, sS]
     refine zg (i := 13) (by kernel_rfl) rfl (fun K' hK' => ?_)
     go_simp
     refine hK'.out _ _ (fun h => absurd h (by decide)) ?_
     clear hK' K'
     try simp only [Act.put, sT, sZ, sS]
     refine zh (by kernel_rfl) ?_ _
     refine ⟨rfl, ?_⟩
     unfold setC at HSET HMU
     go_wp2_with fail
     go_roundw
     ·exact ⟨i + 1, _, by go_num, by omega, HSET.out, HMU.out, HDS.out⟩
     ·simp [intOf]; omega
    ·have hik : i = K := by omega
     subst hik
     have hdi : decide ((i : Int) < (i : Int)) = false := decide_eq_false (by omega)
     have HDN : Hid (Dn X.length a.xs m (srtQ dt X a.xs m) (OkC dt) (k + 1) C') := by
      have q := HD'.out
      have e := HPL.out
      rw [e] at q ⊢
      have e2 := HKE.out
      rw [e2] at q
      exact q.done HP.out hml
     go_wp2_with fail
     go_roundw
     ·exact ⟨k + 1, C', by go_num, by omega, HI'.out, fun _ => HDN.out⟩
     ·simp [intOf]; omega
  ·have hkk : k = X.length := by omega
   subst hkk
   have hdk : decide (((X.length : Nat) : Int) < (X.length : Int)) = false := decide_eq_false (by omega)
   have HBr := hide (HB5.out.mu HI.out.mu hcB)
   have b0 := HBr.out.h
   have a0 := HBr.out.a 0 _ rfl
   have a1 := HBr.out.a 1 _ rfl
   have a2 := HBr.out.a 2 _ rfl
   have a3 := HBr.out.a 3 _ rfl
   have r0 := HBr.out.r0
   have r1 := HBr.out.r1
   have f0 := HBr.out.fz 0
   have f1 := HBr.out.fz 1
   have hlen : X.length = (offsL a.xs a.sv a.off).length := by rw [HX.out]; unfold Ar.rd readL; rw [List.length_map]
   have hst0 := HGA.out.1
   have hall : ∀ j, j < C.length → C3.Sm (C.getD j k0) (srtQ dt X a.xs ax.toNat j) ∧ OkC dt (C.getD j k0) := fun j hj => by
    have hj2 : 0 < X.length := by rw [HI.out.len] at hj; omega
    have hcnt := zw HGA.out.2.1
    have hz : prod a.xs ≠ 0 := fun e => by
     rw [e] at hcnt
     have : (0 : Int).toNat = 0 := rfl
     omega
    have hp : ∀ n ∈ a.xs, 1 ≤ n := fun n hn => (zd1 HGA.out.2.1.1 hz n hn).1
    have hpl : X.length = plen a.xs := by
     have q3 := zr (fun n hn => by have := hp n hn; omega : ∀ n ∈ a.xs, 0 ≤ n)
     omega
    have q := HD.out hj2
    rw [hpl] at q
    exact q.all hp (by omega) j hj
   have hcv : ∀ j, j < C.length → ∀ W, Calls Tryz.prog 73 #[.int .i64 dt, .int .i64 dt, cellV (C.getD j k0)] W fun e W' => ∃ c, e = .returned (cellV c) ∧ (C3.Sm c (srtQ dt X a.xs ax.toNat j) ∧ G1 c) ∧ Ext W W' := fun j hj W => by
    refine (sConvD (hall j hj).2 hdt W).mono ?_
    rintro e W' ⟨c, rfl, q1, q2, q3⟩
    exact ⟨c, rfl, ⟨q1.trans (hall j hj).1, ok_cg q2⟩, q3⟩
   have hXC : CV wr (.slice (some ⟨w3.heap.size, 0, none⟩) C.length C.length) C := ⟨_, _, rfl, Or.inr ⟨_, 0, rfl, HI.out.row⟩⟩
   have hSr := HH.out.keep HBr.out.bl
   have hi1 := zp I1.out HBr.out.bl
   have hi2 := zp I2.out HBr.out.bl
   have hsz3 := HBr.out.sz
   by_cases hw : WrV a.xs a.sv a.off
   ·have HW := hide (za11 (sx := some ⟨w3.heap.size, 0, none⟩) (cx := C.length) (X := C) (fr := dt) (to := dt) (Rl := fun j c => C3.Sm c (srtQ dt X a.xs ax.toNat j) ∧ G1 c) hSr HL.out a.st.toNat a.off (by omega) (by rw [HDT.out]; rfl) (zb12 hdt) hi1 hi2 la.1 la.2 hw HGA.out.2.2 hXC hcv (by rw [HI.out.len]; omega) (by rw [HI.out.len]; exact hn4))
    rw [HI.out.len, Int.toNat_of_nonneg hst0.1] at HW
    rw [if_pos hw] at HC9
    clear hcv hall hXC hSr hi1 hi2 hlen hw hst0
    go_wp2_with fail
    refine HW.out.mono ?_
    rintro e w10 ⟨g, cg, cb, Z, rfl, hZl, hZr, hSp, b10⟩
    have HB10 := hide (HBr.out.keep b10)
    have HSP := hide hSp
    have HZ : Hid (SortOk ss a ax 0 (putT ss a.st.toNat (offsL a.xs a.sv a.off) Z (offsL a.xs a.sv a.off).length)) := by
     refine ⟨HC9.out.symm, Or.inr ⟨rfl, HGA.out, Z, hZl, ?_, rfl⟩⟩
     rw [← HDT.out, ← HX.out]
     exact hZr
    clear hZl hZr hSp b10 HW b0 a0 a1 a2 a3 r0 r1 f0 f1
    have b0 := HB10.out.h
    have a0 := HB10.out.a 0 _ rfl
    have a1 := HB10.out.a 1 _ rfl
    have a2 := HB10.out.a 2 _ rfl
    have a3 := HB10.out.a 3 _ rfl
    have r0 := HB10.out.r0
    have r1 := HB10.out.r1
    have f0 := HB10.out.fz 0
    have f1 := HB10.out.fz 1
    go_wp2
    refine bodyPost_ret (v := .agg #[.int .i64 0, .slice (some ⟨g, 0, none⟩) ss.length cg]) (by simp [results, Tryz.results19, go_sem, r0, r1]) rfl ⟨0, _, _, rfl, HZ.out, Or.inr ⟨g, cg, cb, by rw [zm], ?_⟩, by (first | exact (HB10.out.bl.setCell (p := ⟨w.heap.size + 1 + 1, 0, none⟩) (by show _ ≤ w.heap.size + 1 + 1; omega) _).setCell (p := ⟨w.heap.size + 1 + 1, 1, none⟩) (by show _ ≤ w.heap.size + 1 + 1; omega) _ | exact HB10.out.bl.setCell (p := ⟨w.heap.size + 1 + 1, 0, none⟩) (by show _ ≤ w.heap.size + 1 + 1; omega) _)⟩
    refine HSp.lower (lo := wr.heap.size) ?_ (by omega)
    first
     | exact (HSP.out.far (by show w.heap.size + 1 + 1 < _; omega) _).far (by show w.heap.size + 1 + 1 < _; omega) _
     | exact HSP.out.far (by show w.heap.size + 1 + 1 < _; omega) _
   ·have hl9 : lastC a.xs a.sv a.off dt dt = 9 := by unfold lastC; rw [if_neg hw]
    have HW := hide (zz10 (vX := .slice (some ⟨w3.heap.size, 0, none⟩) X.length X.length) (fr := dt) (to := dt) hSr a.st.toNat a.off (by omega) (by rw [HDT.out]; rfl) hi1 hi2 la.1 la.2 (by rw [hl9]; omega))
    rw [Int.toNat_of_nonneg hst0.1, hl9] at HW
    rw [if_neg hw] at HC9
    clear hcv hall hXC hSr hi1 hi2 hlen hw hst0 hl9
    go_wp2_with fail
    refine HW.out.mono ?_
    rintro e w10 ⟨rfl, b10⟩
    have HB10 := hide (HBr.out.keep b10)
    clear b10 HW b0 a0 a1 a2 a3 r0 r1 f0 f1
    have b0 := HB10.out.h
    have a0 := HB10.out.a 0 _ rfl
    have a1 := HB10.out.a 1 _ rfl
    have a2 := HB10.out.a 2 _ rfl
    have a3 := HB10.out.a 3 _ rfl
    have r0 := HB10.out.r0
    have r1 := HB10.out.r1
    have f0 := HB10.out.fz 0
    have f1 := HB10.out.fz 1
    go_wp2
    refine bodyPost_ret (v := .agg #[.int .i64 9, .slice none 0 0]) (by simp [results, Tryz.results19, go_sem, r0, r1]) rfl ⟨9, _, [], rfl, ⟨HC9.out.symm, .inl ⟨by omega, rfl⟩⟩, .inl ⟨rfl, rfl⟩, by (first | exact (HB10.out.bl.setCell (p := ⟨w.heap.size + 1 + 1, 0, none⟩) (by show _ ≤ w.heap.size + 1 + 1; omega) _).setCell (p := ⟨w.heap.size + 1 + 1, 1, none⟩) (by show _ ≤ w.heap.size + 1 + 1; omega) _ | exact HB10.out.bl.setCell (p := ⟨w.heap.size + 1 + 1, 0, none⟩) (by show _ ≤ w.heap.size + 1 + 1; omega) _)⟩
end
section
open Go.ChangeShapes Go.RowKit FL
def LnOk (dt : Int) (b off n cap : Nat) (f : Nat → C3) (w : World) (e : Ending) (w' : World) : Prop := e = .returned (.slice (some ⟨b, off, none⟩) n cap) ∧ ∃ r, Prm 0 n r ∧ Srt (befC dt) 0 n (fun i => tag f (r i)) ∧ CF w' b off n (fun i => f (r i)) ∧ MRg b off n w w'
theorem zc9 {w : World} {b off n cap OB DB : Nat} {dt : Int} {f : Nat → C3} (h : CF w b off n f) (hf : ∀ o, w.frozen? ⟨b, o, none⟩ = false) (hO : w.cell? ⟨OB, 0, none⟩ = some (.func (.func 97) #[] #[.pointer (some ⟨DB, 0, none⟩)])) (hD : w.cell? ⟨DB, 0, none⟩ = some (.int .i64 dt)) (hne : DB ≠ b) (hs : ∀ i, i < n → OkC dt (f i)) (hn : n ≤ 1048576) :
  Calls Tryz.prog 59 #[.slice (some ⟨b, off, none⟩) n cap, .pointer (some ⟨OB, 0, none⟩)] w fun e w' => LnOk dt b off n cap f w e w' := by
 have HI := hide (zr7 (cap := cap) enter97 (ze12 dt) h hf (order_cmp hD hne) hs hn)
 clear h hf hs
 go_enter Tryz.func59, Tryz.ntmps59
 go_wp2_with fail
 refine HI.out.mono ?_
 intro r9 W1 hans
 obtain ⟨rfl, hres⟩ := hans
 have HRES : Hid (LnOk dt b off n cap f w (.returned (.slice (some ⟨b, off, none⟩) n cap)) W1) := ⟨rfl, hres⟩
 clear hres HI
 go_wp2
 go_ret
 exact HRES.out
theorem zx12 (w : World) (dt : Int) : Calls Tryz.prog 57 #[.int .i64 dt] w fun e w' => e = .returned (.func (.func 97) #[] #[.pointer (some ⟨w.heap.size, 0, none⟩)]) ∧ w'.cell? ⟨w.heap.size, 0, none⟩ = some (.int .i64 dt) ∧ Ext w w' := by
 have n1 := ze w #[.int .i64 dt] 2 w.heap.size rfl 0
 simp only [List.getElem?_toArray, List.getElem?_cons_zero] at n1
 have X1 : Hid (Ext w (w.alloc (.cells #[.int .i64 dt] 2))) := (Ext.refl w).alloc _ _
 have N1 := hide n1
 clear n1
 go_enter Tryz.func57, Tryz.ntmps57
 go_wp2
 go_ret
 exact ⟨rfl, N1.out, X1.out⟩
end
section
open List renaming setIfInBounds_toArray → sT, set_cons_zero → sZ, set_cons_succ → sS
open Go.ChangeShapes Go.RowKit FL
structure OfK (gf : Nat) (cb : Array Value) (bc K : Nat) (dt : Int) (out : (Nat → C3) → Nat → C3) (Fw : World → Prop) : Prop where
 call : ∀ W off f, Fw W → CF W bc off K f → (∀ o, W.frozen? ⟨bc, o, none⟩ = false) → (∀ i, i < K → OkC dt (f i)) →
  Calls Tryz.prog gf (#[.slice (some ⟨bc, off, none⟩) K K] ++ cb) W fun e W' => ∃ sb so cp, e = .returned (.slice (some ⟨sb, so, none⟩) K cp) ∧ CF W' sb so K (out f) ∧ (∃ f', CF W' bc off K f' ∧ ∀ i, i < K → OkC dt (f' i)) ∧ MRg bc off K W W'
structure B1 (w : World) (cB oB bc base off K : Nat) (dt : Int) (rv : Value) (Zl New : List C3) (w' : World) : Prop where
 ex : ∃ rv', w'.cell? ⟨cB, 0, none⟩ = some rv' ∧ w'.ownsRow base 66 3 rv' (Zl.length + K) (flat (Zl ++ New)) ∧ (∀ c, rv'.ownBlock = some c → c ≠ cB ∧ c ≠ bc ∧ c ≠ oB) ∧ (∀ c, rv'.ownBlock = some c → rv.ownBlock = some c ∨ w.heap.size ≤ c)
 lane : ∃ f', CF w' bc off K f' ∧ ∀ i, i < K → OkC dt (f' i)
 rest : ∀ o x, (o < off ∨ off + K * 3 ≤ o) → w.cell? ⟨bc, o, none⟩ = some x → w'.cell? ⟨bc, o, none⟩ = some x
 fb : ∀ o, w'.frozen? ⟨bc, o, none⟩ = w.frozen? ⟨bc, o, none⟩
 fc : ∀ o, w'.frozen? ⟨cB, o, none⟩ = w.frozen? ⟨cB, o, none⟩
 size : w.heap.size ≤ w'.heap.size
 keep : ∀ c, c < w.heap.size → c ≠ cB → c ≠ bc → rv.ownBlock ≠ some c → w'.heap[c]? = w.heap[c]?
 bl : ∀ lo, lo ≤ cB → lo ≤ base → lo ≤ bc → Below lo w w'
theorem cf_news {W : World} {b off K : Nat} {f : Nat → C3} (h : CF W b off K f) : ∀ j u, (flat ((List.range K).map f))[j]? = some u → W.cell? ((⟨b, off, none⟩ : Addr).add j) = some u := by
 intro j u hj
 have hr : CRow W b off ((List.range K).map f) := fun i hi => by
  have hi : i < K := by simpa using hi
  have e : ((List.range K).map f).getD i k0 = f i := by simp [List.getD_eq_getElem?_getD, hi]
  rw [e]
  exact h i hi
 rw [Addr.add_lit]
 exact zw11 hr j u hj
theorem zl11 : ∀ cs : List C3, ∀ u ∈ flat cs, u.oneCell' = true
 | [], u, h => by cases h
 | c :: cs, u, h => by
  have h : u ∈ Value.int .i64 c.1 :: .float .f64 c.2.1 :: .float .f64 c.2.2 :: flat cs := h
  simp only [List.mem_cons] at h
  rcases h with rfl | rfl | rfl | h
  ·rfl
  ·rfl
  ·rfl
  ·exact zl11 cs u h
theorem MRg.rest {b off n : Nat} {w w' : World} (h : MRg b off n w w') {c o : Nat} {x : Value} (hc : c ≠ b) (hx : w.cell? ⟨c, o, none⟩ = some x) : w'.cell? ⟨c, o, none⟩ = some x := h.m.box hc hx
theorem own_mut {w w' : World} {b base e size n : Nat} {v : Value} {xs : List Value} (h : w.ownsRow base e size v n xs) (m : Mut b w w') (hne : v.ownBlock ≠ some b) : w'.ownsRow base e size v n xs := by
 refine ⟨h.1, ?_⟩
 rcases h.2 with h2 | ⟨g, cap, cur, rfl, q1, q2, q3⟩
 ·exact Or.inl h2
 ·exact Or.inr ⟨g, cap, cur, rfl, q1, (m.block g (Array.getElem?_eq_some_iff.1 q2).1 (fun e => hne (congrArg some e))).trans q2, q3⟩
theorem lanes1_any {w : World} {cB oB bc base off K gf : Nat} {cb : Array Value} {dt : Int} {out : (Nat → C3) → Nat → C3} {Fw : World → Prop} {rv : Value} {Zl : List C3} {f : Nat → C3} (eg : ∀ args w, (callFunc gf args).run Tryz.prog w = .ok (.enter gf args) w)
  (hof : OfK gf cb bc K dt out Fw) (hFw : Fw w.drew) (hf : CF w bc off K f) (hfz : ∀ o, w.frozen? ⟨bc, o, none⟩ = false) (hok : ∀ i, i < K → OkC dt (f i)) (hK : 0 < K) (hK4 : K ≤ 4096) (hbox : w.cell? ⟨cB, 0, none⟩ = some rv) (hbf : w.frozen? ⟨cB, 0, none⟩ = false) (hobx : w.cell? ⟨oB, 0, none⟩ = some (.func (.func gf) #[] cb))
  (hown : w.ownsRow base 66 3 rv Zl.length (flat Zl)) (hz4 : Zl.length ≤ 4096) (hb : base ≤ w.heap.size) (hne : ∀ c, rv.ownBlock = some c → c ≠ cB ∧ c ≠ bc ∧ c ≠ oB) (hcb : cB ≠ bc) (hob : oB ≠ bc) :
  Calls Tryz.prog 99 #[.slice (some ⟨bc, off, none⟩) K K, .pointer (some ⟨cB, 0, none⟩), .pointer (some ⟨oB, 0, none⟩)] w fun e w' => e = .returned (.tuple #[]) ∧ B1 w cB oB bc base off K dt rv Zl ((List.range K).map (out f)) w' := by
 obtain ⟨i6, hi6, hx0, hx1, hx2⟩ := info_parts zx4
 have hbl := zj hbox
 have hbcl := zj (hf 0 hK).1
 have HOF := hide (hof.call w.drew off f hFw (fun j hj => hf j hj) (fun o => hfz o) hok)
 have SA : Hid ((fun w' : World => w'.cell? ⟨cB, 0, none⟩ = some rv ∧ w'.cell? ⟨oB, 0, none⟩ = some (.func (.func gf) #[] cb)) w.drew) := ⟨hbox, hobx⟩
 have HO := hide hown
 have HNE := hide hne
 have HBX := hide hbox
 have HOX := hide hobx
 clear hof hFw hf hok hown hne hbox hobx
 go_enter Tryz.func99, Tryz.ntmps99
 go_wp2_with fail
 refine zj3 (S := (fun w' : World => w'.cell? ⟨cB, 0, none⟩ = some rv ∧ w'.cell? ⟨oB, 0, none⟩ = some (.func (.func gf) #[] cb))) (late := [5]) (by kernel_rfl) ?_
 refine zd (i := 0) (d := 4) (v := rv) rfl (by rfl) (by kernel_rfl) (by kernel_rfl) (fun _ _ _ h => by cases h.1) _ (by kernel_rfl) (by kernel_rfl) (Or.inl ⟨by kernel_rfl, ?_⟩) SA.out ?_
 ·intro w' h
  obtain ⟨z0, z1⟩ := h
  go_simp
 simp only [Act.put, sT, sZ, sS]
 refine zd (i := 1) (d := 5) (v := .func (.func gf) #[] cb) rfl (by rfl) (by kernel_rfl) (by kernel_rfl) (fun _ _ _ h => by cases h.1) _ (by kernel_rfl) (by kernel_rfl) (Or.inl ⟨by kernel_rfl, ?_⟩) SA.out ?_
 ·intro w' h
  obtain ⟨z0, z1⟩ := h
  go_simp
 simp only [Act.put, sT, sZ, sS]
 refine zd (i := 2) (d := 6) (v := .slice (some ⟨bc, off, none⟩) K K) rfl (by rfl) (by kernel_rfl) (by kernel_rfl) (fun _ _ _ h => by cases h.1) _ (by kernel_rfl) (by kernel_rfl) (Or.inl ⟨by kernel_rfl, ?_⟩) SA.out ?_
 ·intro w' h
  obtain ⟨z0, z1⟩ := h
  go_simp
 simp only [Act.put, sT, sZ, sS]
 refine zg (i := 3) (by kernel_rfl) rfl (fun K' hK' => ?_)
 go_simp
 refine HOF.out.mono ?_
 rintro e W2 ⟨sb, so, cp, rfl, hout, hlane, hM⟩
 have SB : Hid ((fun w' : World => w'.cell? ⟨cB, 0, none⟩ = some rv ∧ w'.cell? ⟨oB, 0, none⟩ = some (.func (.func gf) #[] cb)) W2) := ⟨hM.rest hcb SA.out.1, hM.rest hob SA.out.2⟩
 refine hK'.out _ _ (fun _ => SB.out) ?_
 clear hK' K'
 try simp only [Act.put, sT, sZ, sS]
 have hs2 : w.heap.size ≤ W2.heap.size := hM.m.size
 have HO2 := hide (own_mut (show w.drew.ownsRow base 66 3 rv Zl.length (flat Zl) from HO.out) hM.m (fun e => (HNE.out bc e).2.1 rfl))
 have HOUT := hide (cf_news hout)
 have HLA := hide hlane
 have HM := hide hM
 clear hout hlane hM HOF SA
 refine zg (i := 4) (by kernel_rfl) rfl (fun K' hK' => ?_)
 refine step_append_lies _ (by rfl) (.tmp 4) (.tmp 7) 61 (by rfl) base 66 i6 (.agg #[.int .i64 0, .float .f64 0, .float .f64 0]) 3 24 Tryz.underlying61 hi6 hx0 hx1 hx2 rfl (by decide) rv Zl.length (flat Zl) (by rfl) HO2.out ⟨sb, so, none⟩ K cp (flat ((List.range K).map (out f))) (by rfl) (by rw [za5]; simp) HOUT.out (zl11 _) hK (by unfold maxLen; omega) (by omega) (by omega) W2.heap.size rfl ?_
 intro g5 cap5 w5 hown5 hgrow5 hat5 hlt5
 have hblk : ∀ c, c < W2.heap.size → rv.ownBlock ≠ some c → w5.heap[c]? = W2.heap[c]? := fun c hc hn => hgrow5.block c hc (fun e => hn e.symm)
 have hc2 : cB < W2.heap.size := by omega
 have hcn : rv.ownBlock ≠ some cB := fun e => (HNE.out cB e).1 rfl
 have hbn : rv.ownBlock ≠ some bc := fun e => (HNE.out bc e).2.1 rfl
 have c5 : w5.cell? ⟨cB, 0, none⟩ = some rv := (World.cell?_of_block (w := W2) (a := ⟨cB, 0, none⟩) (hblk cB hc2 hcn)).trans SB.out.1
 have o5 : w5.cell? ⟨oB, 0, none⟩ = some (.func (.func gf) #[] cb) := by
  exact (World.cell?_of_block (w := W2) (a := ⟨oB, 0, none⟩) (hblk oB (zj SB.out.2) (fun e => (HNE.out oB e).2.2 rfl))).trans SB.out.2
 refine hK'.out _ _ (fun _ => ⟨c5, o5⟩) ?_
 clear hK' K'
 try simp only [Act.put, sT, sZ, sS]
 have f5 : ∀ o, w5.frozen? ⟨cB, o, none⟩ = w.frozen? ⟨cB, o, none⟩ := fun o => (World.frozen?_of_block (w := W2) (a := ⟨cB, o, none⟩) (hblk cB hc2 hcn)).trans (HM.out.m.fz _)
 have f50 := (f5 0).trans hbf
 have hs5 := hgrow5.size
 have HB : Hid (B1 w cB oB bc base off K dt rv Zl ((List.range K).map (out f)) (w5.setCell ⟨cB, 0, none⟩ (.slice (some ⟨g5, 0, none⟩) (Zl.length + K) cap5))) := by
  have hb6 : ∀ c, c ≠ cB → (w5.setCell ⟨cB, 0, none⟩ (.slice (some ⟨g5, 0, none⟩) (Zl.length + K) cap5)).heap[c]? = w5.heap[c]? := fun c hc => Below.heap_setCell _ _ _ _ hc
  have hbc5 : (w5.setCell ⟨cB, 0, none⟩ (.slice (some ⟨g5, 0, none⟩) (Zl.length + K) cap5)).heap[bc]? = W2.heap[bc]? := (hb6 bc (Ne.symm hcb)).trans (hblk bc (by omega) hbn)
  have hg5 : g5 ≠ cB ∧ g5 ≠ bc ∧ g5 ≠ oB := by
   rcases hat5 with z | z
   ·exact HNE.out g5 z
   ·have := zj SB.out.2
    omega
  refine ⟨⟨_, World.cell?_setCell_same _ _ _ c5, ?_, fun c hc => ?_, fun c hc => ?_⟩, ?_, fun o x ho hx => ?_, fun o => ?_, fun o => by rw [World.frozen?_setCell]; exact f5 o, by simp [World.setCell]; omega, fun c hc h1 h2 h3 => ?_, fun lo h1 h2 h3 => ?_⟩
  ·rw [zt9]
   exact own_set hown5 (fun e => hg5.1 (by simp only [Value.ownBlock] at e; injection e))
  ·simp only [Value.ownBlock] at hc
   injection hc with hc
   rw [← hc]; exact hg5
  ·simp only [Value.ownBlock] at hc
   injection hc with hc
   rw [← hc]
   exact hat5.imp id (fun e => by omega)
  ·obtain ⟨f', q1, q2⟩ := HLA.out
   have hcc : ∀ {o x}, W2.cell? ⟨bc, o, none⟩ = some x → (w5.setCell ⟨cB, 0, none⟩ (.slice (some ⟨g5, 0, none⟩) (Zl.length + K) cap5)).cell? ⟨bc, o, none⟩ = some x := fun {o x} hx => (World.cell?_of_block (w := W2) (a := ⟨bc, o, none⟩) hbc5).trans hx
   exact ⟨f', fun j hj => ⟨hcc (q1 j hj).1, hcc (q1 j hj).2.1, hcc (q1 j hj).2.2⟩, q2⟩
  ·exact (World.cell?_of_block (w := W2) (a := ⟨bc, o, none⟩) hbc5).trans (HM.out.c o x ho hx)
  ·exact (World.frozen?_of_block (w := W2) (a := ⟨bc, o, none⟩) hbc5).trans (HM.out.m.fz _)
  ·exact (hb6 c h1).trans ((hblk c (by omega) h3).trans (HM.out.m.block c hc h2))
  ·refine ⟨?_, ?_, ?_, by simp [World.setCell]; omega, fun c hc => ?_⟩
   ·exact hgrow5.os.trans HM.out.m.os
   ·exact hgrow5.tape.trans HM.out.m.tape
   ·exact hgrow5.output.trans HM.out.m.output
   ·exact (hb6 c (by omega)).trans ((hblk c (by omega) (fun e => by have := (HO.out.lt c e).1; omega)).trans (HM.out.m.block c (by show c < w.heap.size; omega) (by omega)))
 clear hown5 hgrow5 hat5 hlt5 f5 hblk
 refine zg (i := 5) (by kernel_rfl) rfl (fun K' hK' => ?_)
 go_simp
 refine hK'.out _ _ (fun h => absurd h (by decide)) ?_
 clear hK' K'
 try simp only [Act.put, sT, sZ, sS]
 refine zh (by kernel_rfl) ?_ _
 refine ⟨rfl, ?_⟩
 go_wp2_with fail
 refine bodyPost_end (results_none rfl _ _ _) rfl ⟨rfl, ?_⟩
 exact HB.out
end
section
open Go.ChangeShapes Go.RowKit Go.Shelf FL
def ZL (out : (Nat → C3) → Nat → C3) (RL : List C3) (K R : Nat) : List C3 := (List.range (R * K)).map fun j => out (fun m => RL.getD (j / K * K + m) k0) (j % K)
theorem zs5 (out : (Nat → C3) → Nat → C3) (RL : List C3) (K R : Nat) : (ZL out RL K R).length = R * K := by simp [ZL]
theorem ZL_at (out : (Nat → C3) → Nat → C3) (RL : List C3) {K R j : Nat} (hj : j < R * K) : (ZL out RL K R).getD j k0 = out (fun m => RL.getD (j / K * K + m) k0) (j % K) := by
 unfold ZL
 rw [List.getD_eq_getElem?_getD, List.getElem?_map, List.getElem?_range hj]
 rfl
theorem ZL_step (out : (Nat → C3) → Nat → C3) (RL : List C3) {K R p : Nat} (hK : 0 < K) (hp : p < R) : (ZL out RL K R).take ((p + 1) * K) = (ZL out RL K R).take (p * K) ++ (List.range K).map (out fun m => RL.getD (p * K + m) k0) := by
 have hle : (p + 1) * K ≤ R * K := Nat.mul_le_mul_right K hp
 rw [Nat.add_mul, Nat.one_mul] at hle ⊢
 apply ze15
 ·rw [List.length_append, List.length_take, List.length_take, zs5, List.length_map, List.length_range]
  omega
 ·intro i hi
  rw [List.length_take, zs5] at hi
  rw [List.getD_eq_getElem?_getD, List.getElem?_take_of_lt (by omega), ← List.getD_eq_getElem?_getD, List.getD_eq_getElem?_getD (l := _ ++ _)]
  rcases Nat.lt_or_ge i (p * K) with z | z
  ·rw [List.getElem?_append_left (by rw [List.length_take, zs5]; omega), List.getElem?_take_of_lt z, ← List.getD_eq_getElem?_getD]
  ·have hl : ((ZL out RL K R).take (p * K)).length = p * K := by rw [List.length_take, zs5]; omega
   rw [List.getElem?_append_right (by rw [hl]; exact z), hl, List.getElem?_map, List.getElem?_range (by omega), ZL_at out RL (by omega)]
   obtain ⟨d, rfl⟩ : ∃ d, i = p * K + d := ⟨i - p * K, by omega⟩
   have hd : d < K := by omega
   have hd1 : (p * K + d) / K = p := by rw [Nat.mul_comm, Nat.mul_add_div hK, Nat.div_eq_of_lt hd, Nat.add_zero]
   have hd2 : (p * K + d) % K = d := by rw [Nat.mul_comm, Nat.mul_add_mod, Nat.mod_eq_of_lt hd]
   rw [hd1, hd2, Nat.add_sub_cancel_left]
   rfl
structure EI (WV : World) (cB oB bc gB base K R : Nat) (dt : Int) (out : (Nat → C3) → Nat → C3) (RL : List C3) (L : List Nat) (W : World) : Prop where
 ex : ∃ rv Zl f, W.cell? ⟨cB, 0, none⟩ = some rv ∧ W.ownsRow base 66 3 rv Zl.length (flat Zl) ∧ Zl.length = L.length * K ∧ (∀ c, rv.ownBlock = some c → c ≠ cB ∧ c ≠ bc ∧ c ≠ oB) ∧ (∀ c, rv.ownBlock = some c → c = gB ∨ WV.heap.size ≤ c) ∧ CF W bc 0 (R * K) f ∧ (∀ j, j < R * K → OkC dt (f j)) ∧
  (L = List.range L.length → (∀ j, L.length * K ≤ j → j < R * K → f j = RL.getD j k0) ∧ Zl = (ZL out RL K R).take (L.length * K))
 fzc : W.frozen? ⟨cB, 0, none⟩ = false
 fzb : ∀ o, W.frozen? ⟨bc, o, none⟩ = false
 kb : ∀ c ob, c ≠ cB → c ≠ bc → c ≠ gB → WV.heap[c]? = some ob → ob.isCells = true → W.heap[c]? = some ob
theorem EI.keep {WV : World} {cB oB bc gB base K R : Nat} {dt : Int} {out : (Nat → C3) → Nat → C3} {RL : List C3} {L : List Nat} {W : World} (h : EI WV cB oB bc gB base K R dt out RL L W) (c o : Nat) (x : Value) (_ : c < WV.heap.size) (h1 : c ≠ cB) (h2 : c ≠ bc) (h3 : c ≠ gB) (hx : WV.cell? ⟨c, o, none⟩ = some x) : W.cell? ⟨c, o, none⟩ = some x := by
 obtain ⟨ob, q1, q2⟩ := cells_of_cell hx
 exact (World.cell?_of_block (w := WV) (a := ⟨c, o, none⟩) ((h.kb c ob h1 h2 h3 q1 q2).trans q1.symm)).trans hx
theorem own_kept {A B : World} {base e size n : Nat} {v : Value} {xs : List Value} {row : Option Nat} (h : A.ownsRow base e size v n xs) (hg : A.grownBy B row) (hr : ∀ r, row = some r → ∃ o : Obj, A.heap[r]? = some o ∧ o.isCells = false) : B.ownsRow base e size v n xs := by
 refine ⟨h.1, ?_⟩
 rcases h.2 with h2 | ⟨g, cap, cur, rfl, q1, q2, q3⟩
 ·exact Or.inl h2
 ·exact Or.inr ⟨g, cap, cur, rfl, q1, (grownBy_keeps_cells hg hr q2 rfl).trans q2, q3⟩
theorem EI.kept {WV : World} {cB oB bc gB base K R : Nat} {dt : Int} {out : (Nat → C3) → Nat → C3} {RL : List C3} {L : List Nat} {A B : World} {row : Option Nat} (hKR : 0 < R * K) (h : EI WV cB oB bc gB base K R dt out RL L A) (hg : A.grownBy B row) (hr : ∀ r, row = some r → ∃ o : Obj, A.heap[r]? = some o ∧ o.isCells = false) : EI WV cB oB bc gB base K R dt out RL L B := by
 obtain ⟨rv, Zl, f, h1, h2, h3, h4, h5, h6, h7, h8⟩ := h.ex
 refine ⟨⟨rv, Zl, f, cell_kept h1 hg hr, own_kept h2 hg hr, h3, h4, h5, fun j hj => ⟨cell_kept (h6 j hj).1 hg hr, cell_kept (h6 j hj).2.1 hg hr, cell_kept (h6 j hj).2.2 hg hr⟩, h7, h8⟩, (frozen_kept h1 hg hr).trans h.fzc, fun o => ?_, fun c ob h1 h2 h3 hb hcl => (grownBy_keeps_cells hg hr (h.kb c ob h1 h2 h3 hb hcl) hcl).trans (h.kb c ob h1 h2 h3 hb hcl)⟩
 obtain ⟨ob, q1, q2⟩ := cells_of_cell (h6 0 hKR).1
 exact (World.frozen?_of_block (w := A) (a := ⟨bc, o, none⟩) (grownBy_keeps_cells hg hr q1 q2)).trans (h.fzb o)
theorem range_snoc {L : List Nat} {x : Nat} (h : L ++ [x] = List.range (L ++ [x]).length) : L = List.range L.length ∧ x = L.length := by
 rw [List.length_append, List.length_singleton, List.range_succ] at h
 have := List.append_inj h (by simp)
 exact ⟨this.1, by simpa using this.2⟩
theorem EI.step {WV : World} {cB oB bc gB base K R x : Nat} {dt : Int} {out : (Nat → C3) → Nat → C3} {RL : List C3} {L : List Nat} {W W' : World} (hK : 0 < K) (hx : x < R) (hcong : ∀ f g : Nat → C3, (∀ i, i < K → f i = g i) → ∀ i, i < K → out f i = out g i) (h : EI WV cB oB bc gB base K R dt out RL L W) (hVW : WV.heap.size ≤ W.heap.size)
  {rv : Value} {Zl : List C3} {f : Nat → C3} (h3 : Zl.length = L.length * K) (h4 : ∀ c, rv.ownBlock = some c → c ≠ cB ∧ c ≠ bc ∧ c ≠ oB) (h5 : ∀ c, rv.ownBlock = some c → c = gB ∨ WV.heap.size ≤ c) (h6 : CF W bc 0 (R * K) f) (h7 : ∀ j, j < R * K → OkC dt (f j)) (h8 : L = List.range L.length → (∀ j, L.length * K ≤ j → j < R * K → f j = RL.getD j k0) ∧ Zl = (ZL out RL K R).take (L.length * K))
  (s : B1 W cB oB bc base (x * K * 3) K dt rv Zl ((List.range K).map (out fun i => f (x * K + i))) W') : EI WV cB oB bc gB base K R dt out RL (L ++ [x]) W' := by
 obtain ⟨rv', s1, s2, s3, s4⟩ := s.ex
 obtain ⟨f', l1, l2⟩ := s.lane
 have hle : (x + 1) * K ≤ R * K := Nat.mul_le_mul_right K hx
 rw [Nat.add_mul, Nat.one_mul] at hle
 have eL : (L ++ [x]).length = L.length + 1 := by simp
 have eZ : (Zl ++ (List.range K).map (out fun i => f (x * K + i))).length = Zl.length + K := by simp
 refine ⟨⟨rv', Zl ++ (List.range K).map (out fun i => f (x * K + i)), fun j => if x * K ≤ j ∧ j < x * K + K then f' (j - x * K) else f j, s1, ?_, ?_, s3, fun c hc => ?_, fun j hj => ?_, fun j hj => ?_, fun hr => ?_⟩, (s.fc 0).trans h.fzc, fun o => (s.fb o).trans (h.fzb o), fun c ob q1 q2 q3 hb hcl => ?_⟩
 ·rw [eZ]; exact s2
 ·rw [eZ, eL, Nat.add_mul, Nat.one_mul, h3]
 ·rcases s4 c hc with z | z
  ·exact h5 c z
  ·exact Or.inr (Nat.le_trans hVW z)
 ·by_cases z : x * K ≤ j ∧ j < x * K + K
  ·simp only [if_pos z]
   have q := l1 (j - x * K) (by omega)
   rw [show x * K * 3 + (j - x * K) * 3 = 0 + j * 3 by omega] at q
   exact q
  ·simp only [if_neg z]
   obtain ⟨a, b, c⟩ := h6 j hj
   exact ⟨s.rest _ _ (by omega) a, s.rest _ _ (by omega) b, s.rest _ _ (by omega) c⟩
 ·by_cases z : x * K ≤ j ∧ j < x * K + K
  ·simp only [if_pos z]; exact l2 _ (by omega)
  ·simp only [if_neg z]; exact h7 j hj
 ·obtain ⟨r1, r2⟩ := range_snoc hr
  obtain ⟨g1, g2⟩ := h8 r1
  rw [eL]
  refine ⟨fun j hj hj2 => ?_, ?_⟩
  ·rw [Nat.add_mul, Nat.one_mul] at hj
   have hn : ¬ (x * K ≤ j ∧ j < x * K + K) := by rw [r2]; omega
   simp only [if_neg hn]
   exact g1 j (by omega) hj2
  ·rw [ZL_step out RL hK (by omega), ← g2, r2]
   congr 1
   refine List.map_congr_left fun i hi => ?_
   refine hcong _ _ (fun m hm => ?_) i (List.mem_range.1 hi)
   rw [r2] at hle
   exact g1 _ (by omega) (by omega)
 ·have q := h.kb c ob q1 q2 q3 hb hcl
  have hcl2 : c < WV.heap.size := (Array.getElem?_eq_some_iff.1 hb).1
  refine (s.keep c (Array.getElem?_eq_some_iff.1 q).1 q1 q2 (fun e => ?_)).trans q
  rcases h5 c e with z | z
  ·exact q3 z
  ·omega
theorem zr14 (w : World) (b o : Nat) (vs : List Value) (q : Nat) (hq : o + vs.length ≤ q) : (stL w b o vs).cell? ⟨b, q, none⟩ = w.cell? ⟨b, q, none⟩ := by
 induction vs generalizing w o with
 | nil => rfl
 | cons v vs ih =>
  simp only [List.length_cons] at hq
  refine (ih _ (o + 1) (by omega)).trans ?_
  exact World.cell?_setCell_other _ _ _ _ (by intro e; simp only [Addr.mk.injEq] at e; omega)
theorem stL_mu (w : World) (b o : Nat) (vs : List Value) : MuB b w (stL w b o vs) := by
 induction vs generalizing w o with
 | nil => exact MuB.refl _ _
 | cons v vs ih =>
  have h1 := ih (w.setCell ⟨b, o, none⟩ v) (o + 1)
  have h0 := (MuB.refl b w).set o v
  exact ⟨h1.os.trans h0.os, h1.tape.trans h0.tape, h1.output.trans h0.output, Nat.le_trans h0.size h1.size, fun k hk hn => (h1.block k (Nat.lt_of_lt_of_le hk h0.size) hn).trans (h0.block k hk hn)⟩
end
end Go.Proofs.YtfhcpicddegblaaGreat
