import Derived.Test.YtfhcpicddegblaaGreatM7
import Derived.Test.YtfhcpicddegblaaGreatM11
import Derived.Test.YtfhcpicddegblaaGreatM6
import Derived.Test.YtfhcpicddegblaaGreatM5
import Derived.Deep.AppendLies
import Derived.Deep.RegionHeld3
import Derived.Test.YtfhcpicddegblaaGreatM8
import Derived.Test.YtfhcpicddegblaaGreatM1
import Derived.RegionTactic
import Derived.Test.YtfhcpicddegblaaGreatM10
set_option linter.unusedSimpArgs false
set_option linter.unusedVariables false
set_option maxRecDepth 100000
set_option maxHeartbeats 8000000
namespace Go.Proofs.YtfhcpicddegblaaGreat
open List renaming setIfInBounds_toArray → sT, set_cons_zero → sZ, set_cons_succ → sS
open Go.Value renaming int → O, slice → σ, pointer → π, agg → γ
open Go.IntKind renaming i64 → ι
open Go.Obj renaming cells → χ
open Go.Act renaming put → aP
section
open Go.ChangeShapes Go.RowKit FL
theorem zr13 {w : World} {v vS vT : Value} {ss : List St} {xs sv : List Int} (h : SV w v ss) (m : Nat) (off : Int) (hm : m < ss.length) {fr to : Int} (h8 : (ss.getD m s0).1 = to) (hcc : castL fr to 1 = true) (hS : Ints w vS xs) (hT : Ints w vT sv) (lx : xs.length ≤ 1048576) (ls : sv.length ≤ 1048576) (hw : WrV xs sv off) :
  Calls Tryz.prog 71 #[γ #[v], O ι fr, γ #[O ι m, vS, vT, O ι off]] w fun e w' => e = .returned (O ι 0) ∧ Bel w w' := by
 obtain ⟨sa, cap, rfl, hx⟩ := h
 have h : SV w (σ sa ss.length cap) ss := ⟨sa, cap, rfl, hx⟩
 obtain ⟨s1, d1, rfl, hS'⟩ := hS
 obtain ⟨s2, d2, rfl, hT'⟩ := hT
 have hS : Ints w (σ s1 xs.length d1) xs := ⟨s1, d1, rfl, hS'⟩
 have hT : Ints w (σ s2 sv.length d2) sv := ⟨s2, d2, rfl, hT'⟩
 have x0 : Ext w ((w.alloc (χ #[σ sa ss.length cap] 34)).alloc (χ #[O ι m, σ s1 xs.length d1, σ s2 sv.length d2, O ι off] 41)) := ((Ext.refl w).alloc _ _).alloc _ _
 have xa : Ext (w.alloc (χ #[σ sa ss.length cap] 34)) ((w.alloc (χ #[σ sa ss.length cap] 34)).alloc (χ #[O ι m, σ s1 xs.length d1, σ s2 sv.length d2, O ι off] 41)) := (Ext.refl _).alloc _ _
 have k0 := xa.box (zd w #[σ sa ss.length cap] 34 w.heap.size rfl 0)
 have n1 := fun j => zd (w.alloc (χ #[σ sa ss.length cap] 34)) #[O ι m, σ s1 xs.length d1, σ s2 sv.length d2, O ι off] 41 (w.heap.size + 1) (by simp) j
 have a0 := n1 0
 have a1 := n1 1
 have a2 := n1 2
 have a3 := n1 3
 simp only [List.getElem?_toArray, List.getElem?_cons_zero, List.getElem?_cons_succ] at k0 a0 a1 a2 a3
 have HWR := hide (zg18 (hS.ext x0) (hT.ext x0) off lx ls)
 rw [dcWrV_t hw] at HWR
 clear hw
 have X0 := hide x0
 have HH := hide h
 clear n1 xa x0 hx hS hT hS' hT' h
 go_enter Tryz.func71, Tryz.ntmps71
 go_wp2_with fail
 generalize ((w.alloc (χ #[σ sa ss.length cap] 34)).alloc (χ #[O ι m, σ s1 xs.length d1, σ s2 sv.length d2, O ι off] 41)) = W0 at *
 refine HWR.out.mono ?_
 rintro e w1 ⟨rfl, b1⟩
 have k0 := Bel.box b1 k0
 have a0 := Bel.box b1 a0
 have a1 := Bel.box b1 a1
 have a2 := Bel.box b1 a2
 have a3 := Bel.box b1 a3
 have B1 := hide (Bel.tr X0.out.bl b1)
 have HTY := hide (zz3 (vS := σ s1 xs.length d1) (vT := σ s2 sv.length d2) (HH.out.keep B1.out) (m : Int) off (Int.natCast_nonneg _) (by omega))
 rw [Int.toNat_natCast, h8] at HTY
 clear b1 HWR h8
 go_wp2_with fail
 refine HTY.out.mono ?_
 rintro e w2 ⟨rfl, x2⟩
 go_wp2_with (go_at_call 108; refine (zo3 _ _ _ _).mono ?_; rintro e w' ⟨rfl, rfl⟩; rw [hcc])
 go_ret
 exact ⟨rfl, Bel.tr B1.out x2.bl⟩
theorem HSp.putc {w w1 : World} {lo g m p j : Nat} {x : C3} {cb : Nat → Nat} {ss : List St} {L : List Int} {X : List C3} (h : HSp w lo g cb (putT ss m L X j)) (hm : m < ss.length) (hp : p < (ss.getD m s0).2.length) (hL : L.getD j 0 = (p : Int)) (x1 : Ext w w1) (hx : x = X.getD j k0) :
  HSp (setC w1 (cb m) (p * 3) x) lo g cb (putT ss m L X (j + 1)) := by
 have h1 : HSp w1 lo g cb (putT ss m L X j) := h.keep (fun b _ hb => x1.bl.block b hb)
 clear h x1
 have hmm : (putT ss m L X j).getD m s0 = ((ss.getD m s0).1, putC (ss.getD m s0).2 L X j) := by unfold putT; rw [zq2, if_pos ⟨rfl, hm⟩]
 have hmn : (putT ss m L X (j + 1)).getD m s0 = ((ss.getD m s0).1, (putC (ss.getD m s0).2 L X j).set p x) := by
  unfold putT
  rw [zq2, if_pos ⟨rfl, hm⟩, putC, hL, hx, Int.toNat_natCast]
 have hnm : ∀ i, i ≠ m → (putT ss m L X (j + 1)).getD i s0 = (putT ss m L X j).getD i s0 := fun i hi => ((zc1 ss m _ X (j + 1) i).2.2 hi).trans ((zc1 ss m L X j i).2.2 hi).symm
 have hnil : ∀ i, ((putT ss m L X (j + 1)).getD i s0).2 ≠ [] ↔ ((putT ss m L X j).getD i s0).2 ≠ [] := fun i => by
  rw [ne_eq, ne_eq, zh1, zh1, (zc1 ss m _ X (j + 1) i).2.1, (zc1 ss m L X j i).2.1]
 have hlen : ∀ i, ((putT ss m L X (j + 1)).getD i s0).2.length = ((putT ss m L X j).getD i s0).2.length := fun i => by rw [(zc1 ss m _ X (j + 1) i).2.1, (zc1 ss m L X j i).2.1]
 have hnem : ((putT ss m L X j).getD m s0).2 ≠ [] := fun e => by rw [zh1, (zc1 ss m L X j m).2.1] at e; omega
 have hml : m < (putT ss m L X j).length := by rw [zo]; exact hm
 have hgm := h1.ne m hml hnem
 have hcb : ∀ i, i < ss.length → ((putT ss m L X j).getD i s0).2 ≠ [] → i ≠ m → cb i ≠ cb m := fun i hi hi2 him e => by
  rcases Nat.lt_or_gt_of_ne him with q | q
  ·exact h1.nd i m q hml hi2 hnem e
  ·exact h1.nd m i q (by rw [zo]; exact hi) hnem hi2 e.symm
 refine ⟨fun i hi => ?_, fun i hi => ?_, fun i hi hne2 => ?_, fun i hi hne2 o => ?_, h1.lo_g, fun i hi hne2 => ?_, fun i i' hii hi' hn1 hn2 => ?_⟩
 ·rw [zo] at hi
  rw [(zc1 ss m _ X (j + 1) i).1, ← (zc1 ss m L X j i).1]
  exact zp (Ne.symm hgm.1) (h1.dt i (by rw [zo]; exact hi))
 ·rw [zo] at hi
  obtain ⟨sa, cap, q1, q2⟩ := h1.sl i (by rw [zo]; exact hi)
  refine ⟨sa, cap, ?_, ?_⟩
  ·rw [hlen]; exact zp (Ne.symm hgm.1) q1
  ·rcases q2 with q2 | q2
   ·exact Or.inl (by rw [zh1, hlen]; rw [zh1] at q2; exact q2)
   ·exact Or.inr q2
 ·rw [zo] at hi
  rw [hnil] at hne2
  have hr := h1.row i (by rw [zo]; exact hi) hne2
  by_cases e : i = m
  ·subst e
   rw [hmn]
   rw [hmm] at hr
   have q := hr.set p (by rw [zm1]; exact hp) x
   simp only [Nat.zero_add] at q
   exact q
  ·rw [hnm i e]
   have hc := hcb i hi hne2 e
   exact fun z hz => ⟨zp hc (hr z hz).1, zp hc (hr z hz).2.1, zp hc (hr z hz).2.2⟩
 ·rw [zo] at hi
  rw [hnil] at hne2
  rw [zy12]
  exact h1.fzr i (by rw [zo]; exact hi) hne2 o
 ·rw [zo] at hi
  rw [hnil] at hne2
  exact h1.ne i (by rw [zo]; exact hi) hne2
 ·rw [zo] at hi'
  rw [hnil] at hn1 hn2
  exact h1.nd i i' hii (by rw [zo]; exact hi') hn1 hn2
theorem zj11 {w : World} {v vS vT : Value} {ss : List St} {xs sv : List Int} {sx : Option Addr} {cx : Nat} {X : List C3} {fr to : Int} {Rl : Nat → C3 → Prop} (h : SV w v ss) (hl : SL ss 1048576) (m : Nat) (off : Int) (hm : m < ss.length) (h8 : (ss.getD m s0).1 = to) (hcc : castL fr to 1 = true) (hS : Ints w vS xs) (hT : Ints w vT sv) (lx : xs.length ≤ 1048576) (ls : sv.length ≤ 1048576) (hw : WrV xs sv off)
  (hin : ∀ p ∈ offsL xs sv off, p < ((ss.getD m s0).2.length : Int)) (hX : CV w (σ sx X.length cx) X) (hcv : ∀ j, j < X.length → ∀ W, Calls Tryz.prog 73 #[O ι fr, O ι to, cellV (X.getD j k0)] W fun e W' => ∃ c, e = .returned (cellV c) ∧ Rl j c ∧ Ext W W') (hXl : (offsL xs sv off).length ≤ X.length) (hX4 : X.length ≤ 4096) :
  Calls Tryz.prog 31 #[γ #[v], O ι fr, σ sx X.length cx, γ #[O ι m, vS, vT, O ι off]] w fun e w' => ∃ g cap cb Z, e = .returned (γ #[O ι 0, σ (some ⟨g, 0, none⟩) ss.length cap]) ∧ Z.length = (offsL xs sv off).length ∧ (∀ j, j < Z.length → Rl j (Z.getD j k0)) ∧ HSp w' w.heap.size g cb (putT ss m (offsL xs sv off) Z (offsL xs sv off).length) ∧ Bel w w' := by
 obtain ⟨sa, cap, rfl, hx⟩ := h
 have h : SV w (σ sa ss.length cap) ss := ⟨sa, cap, rfl, hx⟩
 obtain ⟨s1, d1, rfl, hS'⟩ := hS
 obtain ⟨s2, d2, rfl, hT'⟩ := hT
 have hS : Ints w (σ s1 xs.length d1) xs := ⟨s1, d1, rfl, hS'⟩
 have hT : Ints w (σ s2 sv.length d2) sv := ⟨s2, d2, rfl, hT'⟩
 have x0 : Ext w (((w.alloc (χ #[σ sa ss.length cap] 34)).alloc (χ #[O ι m, σ s1 xs.length d1, σ s2 sv.length d2, O ι off] 41)).alloc (χ #[O ι 0, σ none 0 0] 36)) := (((Ext.refl w).alloc _ _).alloc _ _).alloc _ _
 have xa : Ext (w.alloc (χ #[σ sa ss.length cap] 34)) (((w.alloc (χ #[σ sa ss.length cap] 34)).alloc (χ #[O ι m, σ s1 xs.length d1, σ s2 sv.length d2, O ι off] 41)).alloc (χ #[O ι 0, σ none 0 0] 36)) := ((Ext.refl _).alloc _ _).alloc _ _
 have xb : Ext ((w.alloc (χ #[σ sa ss.length cap] 34)).alloc (χ #[O ι m, σ s1 xs.length d1, σ s2 sv.length d2, O ι off] 41)) (((w.alloc (χ #[σ sa ss.length cap] 34)).alloc (χ #[O ι m, σ s1 xs.length d1, σ s2 sv.length d2, O ι off] 41)).alloc (χ #[O ι 0, σ none 0 0] 36)) := (Ext.refl _).alloc _ _
 have kk0 := xa.box (zd w #[σ sa ss.length cap] 34 w.heap.size rfl 0)
 have n1 := fun j => zd (w.alloc (χ #[σ sa ss.length cap] 34)) #[O ι m, σ s1 xs.length d1, σ s2 sv.length d2, O ι off] 41 (w.heap.size + 1) (by simp) j
 have a0 := xb.box (n1 0)
 have a1 := xb.box (n1 1)
 have a2 := xb.box (n1 2)
 have a3 := xb.box (n1 3)
 have n2 := fun j => zd ((w.alloc (χ #[σ sa ss.length cap] 34)).alloc (χ #[O ι m, σ s1 xs.length d1, σ s2 sv.length d2, O ι off] 41)) #[O ι 0, σ none 0 0] 36 (w.heap.size + 2) (by simp) j
 have r0 := n2 0
 have r1 := n2 1
 simp only [List.getElem?_toArray, List.getElem?_cons_zero, List.getElem?_cons_succ] at kk0 a0 a1 a2 a3 r0 r1
 have hs3 : ((((w.alloc (χ #[σ sa ss.length cap] 34)).alloc (χ #[O ι m, σ s1 xs.length d1, σ s2 sv.length d2, O ι off] 41)).alloc (χ #[O ι 0, σ none 0 0] 36))).heap.size = w.heap.size + 3 := by simp
 have HLA := hide (zr13 (h.keep x0.bl) m off hm h8 hcc (hS.ext x0) (hT.ext x0) lx ls hw)
 have HCP := hide (fun W (b : Bel w W) => zg17 (h.keep b) hl (by omega))
 have HOF := hide (fun W (b : Bel w W) => zi2 (zk hS b) (zk hT b) off hw.1)
 have HTY := hide (fun W (b : Bel w W) => zz3 (vS := σ s1 xs.length d1) (vT := σ s2 sv.length d2) (h.keep b) (m : Int) off (Int.natCast_nonneg _) (by omega))
 have hpos : Hid (∀ p ∈ offsL xs sv off, 0 ≤ p) := fun p hp => (zq3 hw.1 p hp).1
 rw [Int.toNat_natCast, h8] at HTY
 have FR : Hid (∀ o, ((((w.alloc (χ #[σ sa ss.length cap] 34)).alloc (χ #[O ι m, σ s1 xs.length d1, σ s2 sv.length d2, O ι off] 41)).alloc (χ #[O ι 0, σ none 0 0] 36))).frozen? ⟨w.heap.size + 2, o, none⟩ = false) := fun o => x0.unfrozen (by omega) o
 have X0 := hide x0.bl
 have HX := hide hX
 have HCV0 := hide hcv
 have Hin := hide hin
 have hol := zr4 hw.1
 have k0H := hide kk0
 have a0H := hide a0
 have a1H := hide a1
 have a2H := hide a2
 have a3H := hide a3
 have r0H := hide r0
 have r1H := hide r1
 clear n1 n2 xa xb x0 hx hS hT hS' hT' h hX hw h8 hin hl hcv hcc
 generalize offsL xs sv off = L at *
 go_enter Tryz.func31, Tryz.ntmps31
 go_wp2_with fail
 generalize (((w.alloc (χ #[σ sa ss.length cap] 34)).alloc (χ #[O ι m, σ s1 xs.length d1, σ s2 sv.length d2, O ι off] 41)).alloc (χ #[O ι 0, σ none 0 0] 36)) = W0 at *
 refine HLA.out.mono ?_
 rintro e w1 ⟨rfl, b1⟩
 have kk0 := Bel.box b1 kk0
 have a0 := Bel.box b1 a0
 have a1 := Bel.box b1 a1
 have a2 := Bel.box b1 a2
 have a3 := Bel.box b1 a3
 have B1 := hide (Bel.tr X0.out b1)
 have B01 := hide b1
 clear b1 HLA
 go_wp2_with fail
 refine (HCP.out _ B1.out).mono ?_
 rintro e w2 ⟨g, cg, cb, rfl, hO, b2⟩
 have B2 := hide (Bel.tr B01.out b2)
 have x3 : Ext w2 (w2.alloc (χ #[σ (some ⟨g, 0, none⟩) ss.length cg] 34)) := (Ext.refl _).alloc _ _
 have B3 := hide (Bel.tr B2.out x3.bl)
 have N3 := hide (zd w2 #[σ (some ⟨g, 0, none⟩) ss.length cg] 34 w2.heap.size rfl 0)
 have HO3 := hide (hO.keep (fun b _ hb => x3.bl.block b hb))
 have a0 := Bel.box B3.out a0H.out
 have a1 := Bel.box B3.out a1H.out
 have a2 := Bel.box B3.out a2H.out
 have a3 := Bel.box B3.out a3H.out
 have hlo := hO.lo_g
 have hw01 := B01.out.size
 have hw12 := b2.size
 have hb12 := hide b2
 have hcbw : Hid ((ss.getD m s0).2 ≠ [] → cb m < w2.heap.size) := fun hne => zj (hO.row m hm hne 0 (List.length_pos_iff.2 hne)).1
 have hb13 : Hid (Bel w1 (w2.alloc (χ #[σ (some ⟨g, 0, none⟩) ss.length cg] 34))) := Bel.tr b2 x3.bl
 have x3' := hide x3
 clear hO b2 x3 HCP kk0
 go_wp2_with fail
 have B4w := hide (Bel.tr B1.out (show Bel w1 _ from Below.trans (show Bel w1 w2 from hb12.out) (x3'.out.bl.mono hb12.out.size)))
 refine (HOF.out _ B4w.out).mono ?_
 rintro e w4 ⟨sl, cl, rfl, hOwn, b4⟩
 have hW4 : Bel w1 w4 := Below.trans hb13.out (Below.mono b4 hb13.out.size)
 have HW4 := hide hW4
 have N4 := hide (Bel.box b4 N3.out)
 have HO4 := hide (HO3.out.keep (fun b _ hb => b4.block b hb))
 have HOwn := hide hOwn
 have hs34 : w2.heap.size + 1 ≤ w4.heap.size := by have := b4.size; rw [World.size_alloc] at this; exact this
 have HSZ : Hid ((w2.alloc (χ #[σ (some ⟨g, 0, none⟩) ss.length cg] 34)).heap.size = w2.heap.size + 1) := by show _ = _; simp
 rw [HSZ.out] at HOwn
 clear hOwn b4 hW4 a0 a1 a2 a3 HO3 N3 hb13 hb12 x3' B4w
 go_wp2_with fail
 go_loopw [12] (fun i wr => ∃ (k : Nat) (Z : List C3), i = O ι k ∧ k ≤ L.length ∧ Z.length = k ∧ (∀ j, j < k → Rl j (Z.getD j k0)) ∧ HSp wr w1.heap.size g cb (putT ss m L Z k) ∧ Bel w1 wr ∧ (∀ c o x, ((ss.getD m s0).2 ≠ [] → c ≠ cb m) → w4.cell? ⟨c, o, none⟩ = some x → wr.cell? ⟨c, o, none⟩ = some x)) (fun i _ => L.length - (intOf i).toNat)
 case atStart => exact ⟨0, [], rfl, by omega, rfl, fun j hj => absurd hj (by omega), by rw [zr6 ss m L [] hm]; exact HO4.out, HW4.out, fun _ _ _ _ h => h⟩
 case round =>
  obtain ⟨k, Z, rfl, hk, hZl, hZr, hP, hB, hKc⟩ := hrel
  have HZL := hide hZl
  have HZR := hide hZr
  have HP := hide hP
  have HB := hide hB
  have HKc := hide hKc
  clear hP hB hKc hZl hZr
  by_cases hkn : k < L.length
  ·obtain ⟨gl, rfl, hgl, hrow, _⟩ := HOwn.out.resolve_left (fun e => by rw [e] at hkn; simp at hkn)
   have hmem : L.getD k 0 ∈ L := by rw [List.getD_eq_getElem?_getD, List.getElem?_eq_getElem hkn]; exact List.getElem_mem _
   have hp0 := hpos.out _ hmem
   have hp1 := Hin.out _ hmem
   have rL := hrow k hkn
   rw [Nat.zero_add] at rL
   obtain ⟨p, hp⟩ : ∃ p : Nat, L.getD k 0 = (p : Int) := ⟨(L.getD k 0).toNat, by omega⟩
   have Hp := hide hp
   rw [hp] at rL hp1 hp0
   have hpc : p < (ss.getD m s0).2.length := by omega
   have hne : (ss.getD m s0).2 ≠ [] := fun e => by rw [e] at hpc; simp at hpc
   have hcm := hcbw.out hne
   have hml : m < (putT ss m L Z k).length := by rw [zo]; exact hm
   have hnem : ((putT ss m L Z k).getD m s0).2 ≠ [] := fun e => by rw [zh1, (zc1 ss m L Z k m).2.1] at e; omega
   have hgm := HP.out.ne m hml hnem
   obtain ⟨sq, cp, q1, q2⟩ := HP.out.sl m hml
   obtain rfl := q2.resolve_left hnem
   rw [(zc1 ss m L Z k m).2.1] at q1
   obtain ⟨y0, y1, y2⟩ := HP.out.row m hml hnem p (by rw [(zc1 ss m L Z k m).2.1]; exact hpc)
   rw [Nat.zero_add] at y0 y1 y2
   have hfr := HP.out.fzr m hml hnem
   have hkX : k < X.length := by omega
   obtain ⟨sx', cx', ex, hxr⟩ := HX.out
   injection ex with ex1 ex2 ex3
   subst ex1 ex3
   clear ex2
   obtain ⟨bx, ox, rfl, hxc⟩ := hxr.resolve_left (fun e => by rw [e] at hkX; simp at hkX)
   obtain ⟨t0, t1, t2⟩ := hxc k hkX
   have hbx := zj t0
   have Bww := Bel.tr B1.out HB.out
   have hcj := HCV0.out k hkX
   have t0 := Bel.box Bww t0
   have t1 := Bel.box Bww t1
   have t2 := Bel.box Bww t2
   generalize X.getD k k0 = xv at t0 t1 t2 hcj
   obtain ⟨xi, xf, xg⟩ := xv
   simp only at t0 t1 t2
   unfold cellV at hcj
   have HCJ := hide hcj
   generalize hcs : (ss.getD m s0).2 = cs at q1 hpc
   have Hcs := hide hcs
   have B0r := Bel.tr B01.out HB.out
   have SA : Hid ((fun w' : World => w'.cell? ⟨w2.heap.size, 0, none⟩ = some (σ (some ⟨g, 0, none⟩) ss.length cg) ∧ w'.cell? ⟨w.heap.size, 0, none⟩ = some (σ sa ss.length cap) ∧ w'.cell? ⟨w.heap.size + 1, 0, none⟩ = some (O ι m) ∧ w'.cell? ⟨w.heap.size + 1, 1, none⟩ = some (σ s1 xs.length d1) ∧ w'.cell? ⟨w.heap.size + 1, 2, none⟩ = some (σ s2 sv.length d2) ∧ w'.cell? ⟨w.heap.size + 1, 3, none⟩ = some (O ι off) ∧ w'.cell? ⟨g, m * 2 + 1, none⟩ = some (σ (some ⟨cb m, 0, none⟩) cs.length cp) ∧ w'.cell? ⟨gl, k, none⟩ = some (O ι p) ∧ w'.cell? ⟨bx, ox + k * 3, none⟩ = some (O ι xi) ∧ w'.cell? ⟨bx, ox + k * 3 + 1, none⟩ = some (.float .f64 xf) ∧ w'.cell? ⟨bx, ox + k * 3 + 2, none⟩ = some (.float .f64 xg)) wr.drew) := ⟨HKc.out _ _ _ (fun _ => by omega) N4.out, Bel.box B0r k0H.out, Bel.box B0r a0H.out, Bel.box B0r a1H.out, Bel.box B0r a2H.out, Bel.box B0r a3H.out, q1, HKc.out _ _ _ (fun _ => by omega) rL, t0, t1, t2⟩
   have hk0' : (0 : Int) ≤ (k : Int) := Int.natCast_nonneg _
   have hk1 : (k : Int) < (L.length : Int) := by omega
   have hk2 : (k : Int) < (X.length : Int) := by omega
   have hp2 : (0 : Int) ≤ (p : Int) := Int.natCast_nonneg _
   have hp3 : (p : Int) < (cs.length : Int) := by omega
   have hm0 : (0 : Int) ≤ (m : Int) := Int.natCast_nonneg _
   have hm1 : (m : Int) < (ss.length : Int) := by omega
   have HTY2 := hide (HTY.out wr.drew (Bel.tr Bww (show Bel wr wr.drew from (Below.refl _ _).drew)))
   have HBww := hide Bww
   have hwb : w.heap.size + 3 ≤ w1.heap.size := by omega
   have hd : decide ((k : Int) < (L.length : Int)) = true := decide_eq_true (by omega)
   clear hrow rL hxr hxc t0 t1 t2 q1 hcj hcs hp hp0 hp1 hmem Bww B0r
   go_wp2_with fail
   go_region_held3 (fun w' : World => w'.cell? ⟨w2.heap.size, 0, none⟩ = some (σ (some ⟨g, 0, none⟩) ss.length cg) ∧ w'.cell? ⟨w.heap.size, 0, none⟩ = some (σ sa ss.length cap) ∧ w'.cell? ⟨w.heap.size + 1, 0, none⟩ = some (O ι m) ∧ w'.cell? ⟨w.heap.size + 1, 1, none⟩ = some (σ s1 xs.length d1) ∧ w'.cell? ⟨w.heap.size + 1, 2, none⟩ = some (σ s2 sv.length d2) ∧ w'.cell? ⟨w.heap.size + 1, 3, none⟩ = some (O ι off) ∧ w'.cell? ⟨g, m * 2 + 1, none⟩ = some (σ (some ⟨cb m, 0, none⟩) cs.length cp) ∧ w'.cell? ⟨gl, k, none⟩ = some (O ι p) ∧ w'.cell? ⟨bx, ox + k * 3, none⟩ = some (O ι xi) ∧ w'.cell? ⟨bx, ox + k * 3 + 1, none⟩ = some (.float .f64 xf) ∧ w'.cell? ⟨bx, ox + k * 3 + 2, none⟩ = some (.float .f64 xg)) (first | with_reducible exact SA.out | exact SA.out | exact SB.out | exact SC.out | exact SD.out) (first | (go_at_call 26; refine HTY2.out.mono ?_; rintro e w5 ⟨rfl, x5⟩; have SB : Hid ((fun w' : World => w'.cell? ⟨w2.heap.size, 0, none⟩ = some (σ (some ⟨g, 0, none⟩) ss.length cg) ∧ w'.cell? ⟨w.heap.size, 0, none⟩ = some (σ sa ss.length cap) ∧ w'.cell? ⟨w.heap.size + 1, 0, none⟩ = some (O ι m) ∧ w'.cell? ⟨w.heap.size + 1, 1, none⟩ = some (σ s1 xs.length d1) ∧ w'.cell? ⟨w.heap.size + 1, 2, none⟩ = some (σ s2 sv.length d2) ∧ w'.cell? ⟨w.heap.size + 1, 3, none⟩ = some (O ι off) ∧ w'.cell? ⟨g, m * 2 + 1, none⟩ = some (σ (some ⟨cb m, 0, none⟩) cs.length cp) ∧ w'.cell? ⟨gl, k, none⟩ = some (O ι p) ∧ w'.cell? ⟨bx, ox + k * 3, none⟩ = some (O ι xi) ∧ w'.cell? ⟨bx, ox + k * 3 + 1, none⟩ = some (.float .f64 xf) ∧ w'.cell? ⟨bx, ox + k * 3 + 2, none⟩ = some (.float .f64 xg)) w5) := ⟨x5.box (SA.out.1), x5.box (SA.out.2.1), x5.box (SA.out.2.2.1), x5.box (SA.out.2.2.2.1), x5.box (SA.out.2.2.2.2.1), x5.box (SA.out.2.2.2.2.2.1), x5.box (SA.out.2.2.2.2.2.2.1), x5.box (SA.out.2.2.2.2.2.2.2.1), x5.box (SA.out.2.2.2.2.2.2.2.2.1), x5.box (SA.out.2.2.2.2.2.2.2.2.2.1), x5.box (SA.out.2.2.2.2.2.2.2.2.2.2)⟩; have X5 := hide x5; clear x5) | (go_at_call 73; refine (HCJ.out _).mono ?_; rintro e w6 ⟨⟨ci, cf, ch⟩, rfl, hrl, x6⟩; have HRL := hide hrl; clear hrl; have SC : Hid ((fun w' : World => w'.cell? ⟨w2.heap.size, 0, none⟩ = some (σ (some ⟨g, 0, none⟩) ss.length cg) ∧ w'.cell? ⟨w.heap.size, 0, none⟩ = some (σ sa ss.length cap) ∧ w'.cell? ⟨w.heap.size + 1, 0, none⟩ = some (O ι m) ∧ w'.cell? ⟨w.heap.size + 1, 1, none⟩ = some (σ s1 xs.length d1) ∧ w'.cell? ⟨w.heap.size + 1, 2, none⟩ = some (σ s2 sv.length d2) ∧ w'.cell? ⟨w.heap.size + 1, 3, none⟩ = some (O ι off) ∧ w'.cell? ⟨g, m * 2 + 1, none⟩ = some (σ (some ⟨cb m, 0, none⟩) cs.length cp) ∧ w'.cell? ⟨gl, k, none⟩ = some (O ι p) ∧ w'.cell? ⟨bx, ox + k * 3, none⟩ = some (O ι xi) ∧ w'.cell? ⟨bx, ox + k * 3 + 1, none⟩ = some (.float .f64 xf) ∧ w'.cell? ⟨bx, ox + k * 3 + 2, none⟩ = some (.float .f64 xg)) w6) := ⟨x6.box (SB.out.1), x6.box (SB.out.2.1), x6.box (SB.out.2.2.1), x6.box (SB.out.2.2.2.1), x6.box (SB.out.2.2.2.2.1), x6.box (SB.out.2.2.2.2.2.1), x6.box (SB.out.2.2.2.2.2.2.1), x6.box (SB.out.2.2.2.2.2.2.2.1), x6.box (SB.out.2.2.2.2.2.2.2.2.1), x6.box (SB.out.2.2.2.2.2.2.2.2.2.1), x6.box (SB.out.2.2.2.2.2.2.2.2.2.2)⟩; have xx := ((Ext.refl wr).drew.trans X5.out).trans x6; have X6 := hide xx; have SD : Hid ((fun w' : World => w'.cell? ⟨w2.heap.size, 0, none⟩ = some (σ (some ⟨g, 0, none⟩) ss.length cg) ∧ w'.cell? ⟨w.heap.size, 0, none⟩ = some (σ sa ss.length cap) ∧ w'.cell? ⟨w.heap.size + 1, 0, none⟩ = some (O ι m) ∧ w'.cell? ⟨w.heap.size + 1, 1, none⟩ = some (σ s1 xs.length d1) ∧ w'.cell? ⟨w.heap.size + 1, 2, none⟩ = some (σ s2 sv.length d2) ∧ w'.cell? ⟨w.heap.size + 1, 3, none⟩ = some (O ι off) ∧ w'.cell? ⟨g, m * 2 + 1, none⟩ = some (σ (some ⟨cb m, 0, none⟩) cs.length cp) ∧ w'.cell? ⟨gl, k, none⟩ = some (O ι p) ∧ w'.cell? ⟨bx, ox + k * 3, none⟩ = some (O ι xi) ∧ w'.cell? ⟨bx, ox + k * 3 + 1, none⟩ = some (.float .f64 xf) ∧ w'.cell? ⟨bx, ox + k * 3 + 2, none⟩ = some (.float .f64 xg)) (setC w6 (cb m) (p * 3) (ci, cf, ch))) := ⟨zp (by omega) (SC.out.1), zp (by omega) (SC.out.2.1), zp (by omega) (SC.out.2.2.1), zp (by omega) (SC.out.2.2.2.1), zp (by omega) (SC.out.2.2.2.2.1), zp (by omega) (SC.out.2.2.2.2.2.1), zp (by omega) (SC.out.2.2.2.2.2.2.1), zp (by omega) (SC.out.2.2.2.2.2.2.2.1), zp (by omega) (SC.out.2.2.2.2.2.2.2.2.1), zp (by omega) (SC.out.2.2.2.2.2.2.2.2.2.1), zp (by omega) (SC.out.2.2.2.2.2.2.2.2.2.2)⟩; have z0 := xx.box y0; have z1 := xx.box y1; have z2 := xx.box y2; have fz := fun q => (xx.fz _).trans (hfr q); have g0 := fz (p * 3); have g1 := fz (p * 3 + 1); have g2 := fz (p * 3 + 2); clear x6 xx fz))
   have HZE : Hid (putT ss m L Z k = putT ss m L (Z ++ [(ci, cf, ch)]) k) := zo16 ss m (fun _ _ => rfl) (fun i hi => by rw [zy4, HZL.out, if_pos hi])
   have HPZ := HP.out
   rw [HZE.out] at HPZ
   have HPN := hide (HPZ.putc (x := (ci, cf, ch)) hm (by rw [Hcs.out]; exact hpc) Hp.out X6.out (by rw [zy4, HZL.out, if_neg (by omega), if_pos rfl]))
   clear HPZ
   have HBN : Hid (Bel w1 (setC w6 (cb m) (p * 3) (ci, cf, ch))) := zi8 (Bel.tr HB.out X6.out.bl) hgm.2 _ _
   have HKN : Hid (∀ c o x, ((ss.getD m s0).2 ≠ [] → c ≠ cb m) → w4.cell? ⟨c, o, none⟩ = some x → (setC w6 (cb m) (p * 3) (ci, cf, ch)).cell? ⟨c, o, none⟩ = some x) := fun c o x hc hx => zp (hc hne) (X6.out.box (HKc.out c o x hc hx))
   unfold setC at HPN HBN HKN
   clear SA SB SC SD
   go_wp2_with fail
   go_roundw
   ·exact ⟨k + 1, Z ++ [(ci, cf, ch)], by go_num, by omega, by simp [HZL.out], fun j hj => by (rw [zy4, HZL.out]; by_cases e : j < k; (rw [if_pos e]; exact HZR.out j e); (rw [if_neg e, if_pos (show j = k by omega), show j = k by omega]; exact HRL.out)), HPN.out, HBN.out, fun c o x hc hx => HKN.out c o x (fun h => hc (by rw [← Hcs.out]; exact h)) hx⟩
   ·simp [intOf]; omega
  ·have hkk : k = L.length := by omega
   subst hkk
   have c3 := HKc.out _ _ _ (fun hne => by have := hcbw.out hne; omega) N4.out
   have B0r := Bel.tr B01.out HB.out
   have r0 := Bel.box B0r r0H.out
   have r1 := Bel.box B0r r1H.out
   have f0 := (Below.frozen B0r (p := ⟨w.heap.size + 2, 0, none⟩) (zj r0H.out)).trans (FR.out 0)
   have f1 := (Below.frozen B0r (p := ⟨w.heap.size + 2, 1, none⟩) (zj r0H.out)).trans (FR.out 1)
   have hd : decide (((L.length : Nat) : Int) < (L.length : Int)) = false := decide_eq_false (by omega)
   have HBF := hide (Bel.tr X0.out B0r)
   clear B0r
   go_wp2
   refine bodyPost_ret (v := γ #[O ι 0, σ (some ⟨g, 0, none⟩) ss.length cg]) (by simp [results, Tryz.results31, go_sem, r0, r1]) rfl ⟨g, cg, cb, Z, rfl, HZL.out, fun j hj => HZR.out j (by rw [← HZL.out]; exact hj), ?_, ?_⟩
   ·refine HSp.lower (HP.out.keep (fun b hb _ => ?_)) (by omega)
    first
     | exact (Below.heap_setCell _ _ _ _ (by show b ≠ w.heap.size + 1 + 1; omega)).trans (Below.heap_setCell _ _ _ _ (by show b ≠ w.heap.size + 1 + 1; omega))
     | exact (Below.heap_setCell _ _ _ _ (by show b ≠ w.heap.size + 1 + 1; omega))
   ·have hp : ∀ q, w.heap.size ≤ (⟨w.heap.size + 1 + 1, q, none⟩ : Addr).block := fun q => by show _ ≤ w.heap.size + 1 + 1; omega
    first
     | exact (HBF.out.setCell (hp 0) _).setCell (hp 1) _
     | exact HBF.out.setCell (hp 1) _
def RdRel (w2 : World) (g0 : Nat) (f : Int → C3) (L : List Int) (o i : Value) (wr : World) : Prop := ∃ m : Nat, i = O ι m ∧ m ≤ L.length ∧ wr.ownsRow g0 66 3 o m (flat ((L.take m).map f)) ∧ (o.ownBlock = some g0 ∨ ∃ k, o.ownBlock = some k ∧ w2.heap.size ≤ k) ∧ w2.grownBy wr (some g0)
theorem zb18 (f : Int → C3) (L : List Int) (m : Nat) (hm : m < L.length) : (L.take (m + 1)).map f = (L.take m).map f ++ [f (L.getD m 0)] := by
 rw [List.take_add_one, List.map_append, List.getD_eq_getElem?_getD, List.getElem?_eq_getElem hm]
 rfl
theorem ze17 {w : World} {v vS vT : Value} {ss : List St} {xs sv : List Int} (h : SV w v ss) (hl : SL ss 1048576) (st : Int) (hS : Ints w vS xs) (hT : Ints w vT sv) (off : Int) (hG : GoodA ss st xs sv off) :
  Calls Tryz.prog 29 #[γ #[v], O ι st, γ #[vS, vT, O ι off]] w fun e w' => CellsOk w (readL ss st xs sv off) e w' := by
 obtain ⟨i59, hi59, hy0, hy1, hy2⟩ := info_parts zx4
 obtain ⟨sa, cap, rfl, hx⟩ := h
 have h : SV w (σ sa ss.length cap) ss := ⟨sa, cap, rfl, hx⟩
 have n1 := fun j => zd w #[σ sa ss.length cap] 34 w.heap.size rfl j
 generalize hW1 : (w.alloc (χ #[σ sa ss.length cap] 34)).alloc (χ #[vS, vT, O ι off] 39) = W1
 have x1 : Ext w W1 := by rw [← hW1]; exact ((Ext.refl w).alloc _ _).alloc _ _
 have hs1 : W1.heap.size = w.heap.size + 1 + 1 := by rw [← hW1]; simp
 have c1 : W1.cell? ⟨w.heap.size, 0, none⟩ = some (σ sa ss.length cap) := by rw [← hW1]; exact ((Ext.refl _).alloc _ _).box (n1 0)
 have y0 : Ext W1 (W1.alloc (χ #[] 66)) := (Ext.refl _).alloc _ _
 have x0 : Ext w (W1.alloc (χ #[] 66)) := x1.trans y0
 have C0 : Hid ((W1.alloc (χ #[] 66)).cell? ⟨w.heap.size, 0, none⟩ = some (σ sa ss.length cap)) := y0.box c1
 have O0 : Hid ((W1.alloc (χ #[] 66)).ownsRow (w.heap.size + 1 + 1) 66 3 (σ (some ⟨w.heap.size + 1 + 1, 0, none⟩) 0 0) 0 []) := by
  have := World.ownsRow_made (base := w.heap.size + 1 + 1) (e := 66) (size := 3) W1 #[] 0 (by omega) (by unfold maxLen; omega) (by simp)
  rw [hs1] at this
  exact this
 have X0 := hide x0
 have HH := hide h
 have HS := hide (hS.ext x0)
 have HT := hide (hT.ext x0)
 have hl1 := hl.1
 have hsW : (W1.alloc (χ #[] 66)).heap.size = w.heap.size + 3 := by simp; omega
 clear hx h x0 y0 n1 c1 x1 hs1
 obtain ⟨s1, d1, rfl, _⟩ := hS
 obtain ⟨s2, d2, rfl, _⟩ := hT
 obtain ⟨⟨hk0, hk1⟩, hv, hin⟩ := hG
 obtain ⟨k, rfl⟩ : ∃ k : Nat, st = (k : Int) := ⟨st.toNat, by omega⟩
 have hk : k < ss.length := by omega
 have hL : Hid (readL ss k xs sv off = (offsL xs sv off).map fun p => (ss.getD k s0).2.getD p.toNat k0) := by show readL ss k xs sv off = _; unfold readL; rw [Int.toNat_natCast]
 rw [Int.toNat_natCast] at hin
 have hoff := hide (zi2 HS.out HT.out off hv)
 have hOl := zr4 hv
 have hon : Hid (∀ p ∈ offsL xs sv off, 0 ≤ p ∧ p < ((ss.getD k s0).2.length : Int)) := fun p hp => ⟨(zq3 hv p hp).1, hin p hp⟩
 clear hin hv
 generalize hW0 : W1.alloc (χ #[] 66) = W0 at C0 O0 X0 HS HT hoff hsW
 subst hW1
 have HW0 := hide hW0
 clear hW0
 go_enter Tryz.func29, Tryz.ntmps29
 go_wp2_with fail
 rw [HW0.out]
 refine hoff.out.mono ?_
 rintro e w2 ⟨so, co, rfl, hO, x2⟩
 have HO := hide hO
 have HX2 := hide x2
 have c2' := Bel.box x2 C0.out
 have O2 : Hid (w2.ownsRow (w.heap.size + 1 + 1) 66 3 (σ (some ⟨w.heap.size + 1 + 1, 0, none⟩) 0 0) 0 []) := O0.out.kept (row := none) ⟨x2.os, x2.tape, x2.output, x2.size, fun k hk _ => x2.block k hk⟩ (Or.inr (by intro e; cases e))
 have hs2 : w.heap.size + 3 ≤ w2.heap.size := by have := Below.size x2; omega
 have X2 := hide (Bel.tr X0.out.bl x2)
 clear x2 hO C0 O0 X0 HS HT hoff HW0
 obtain ⟨sb0, cb0, eb0, hrow0⟩ := HH.out
 injection eb0 with eb1 _ eb2
 subst eb1 eb2
 rcases hrow0 with h0 | ⟨bs, os, rfl, hrow⟩
 ·rw [h0] at hk; simp at hk
 obtain ⟨q0, u, q1, q2⟩ := hrow k hk
 have hcl := hl.at k hk
 have Q2 := hide q2
 clear hrow q2
 obtain ⟨su, cu, rfl, _⟩ := Q2.out
 generalize (ss.getD k s0).1 = DT at q0
 generalize (ss.getD k s0).2 = cs at q1 Q2 hcl hL hon
 generalize offsL xs sv off = L at HO hOl hon hL ⊢
 have hb0 : bs < w.heap.size := zj q1
 have q1 := Bel.box X2.out q1
 have hM8 : (4096 + 1) * 24 ≤ 140737488355328 := by omega
 go_wp2_with fail
 go_loopw [7, 9] (fun o i wr => RdRel w2 (w.heap.size + 1 + 1) (fun p => cs.getD p.toNat k0) L o i wr) (fun o i _ => L.length - (intOf i).toNat)
 case atStart => exact ⟨0, rfl, by omega, O2.out, Or.inl rfl, ⟨rfl, rfl, rfl, Nat.le_refl _, fun _ _ _ => rfl⟩⟩
 case round =>
  obtain ⟨m, rfl, hm, hown, hob, hgr⟩ := hrel
  have HOW := hide hown
  have HOB := hide hob
  have HGR := hide hgr
  clear hown hob hgr
  by_cases hml : m < L.length
  ·rcases HO.out with h0 | ⟨g, rfl, hg1, hrowL, _⟩
   ·rw [h0] at hml; simp at hml
   have hmem := hon.out (L.getD m 0) (by rw [List.getD_eq_getElem?_getD, List.getElem?_eq_getElem hml]; exact List.getElem_mem hml)
   have l0 := hrowL m hml
   rw [Nat.zero_add] at l0
   have hgl := zj l0
   have HT2 := hide (zb18 (fun p => cs.getD p.toNat k0) L m hml)
   obtain ⟨x, hxx⟩ : ∃ x : Nat, L.getD m 0 = (x : Int) := ⟨(L.getD m 0).toNat, by omega⟩
   rw [hxx] at l0 hmem HT2
   rw [Int.toNat_natCast] at HT2
   have hxl : x < cs.length := by omega
   rcases Q2.out with ⟨su2, cu2, e2, h0 | ⟨bc, oc, e3, hrowC⟩⟩
   ·rw [h0] at hxl; simp at hxl
   injection e2 with e4 _ _
   subst e4
   subst e3
   have t0 := hrowC x hxl
   have t1 := t0.2.1
   have t2 := t0.2.2
   have t0 := t0.1
   have hbc := zj t0
   have t0 := Bel.box X2.out t0
   have t1 := Bel.box X2.out t1
   have t2 := Bel.box X2.out t2
   generalize cs.getD x k0 = cx at t0 t1 t2 HT2
   obtain ⟨A, B, C⟩ := cx
   clear hrowC hrowL hxx
   have hsr := HGR.out.size
   have s0' := zb1 HGR.out (by omega) c2'
   have s1' := zb1 HGR.out (by omega) q1
   have s2' := zb1 HGR.out (by omega) l0
   have s3' := zb1 HGR.out (by omega) t0
   have s4' := zb1 HGR.out (by omega) t1
   have s5' := zb1 HGR.out (by omega) t2
   have hm0 : (0 : Int) ≤ (m : Int) := Int.natCast_nonneg _
   have hm1 : (m : Int) < (L.length : Int) := by omega
   have hx0 : (0 : Int) ≤ (x : Int) := Int.natCast_nonneg _
   have hx1 : (x : Int) < (cs.length : Int) := by omega
   have SA : Hid ((fun w' => w'.cell? ⟨w.heap.size, 0, none⟩ = some (σ (some ⟨bs, os, none⟩) ss.length cap) ∧ w'.cell? ⟨bs, os + k * 2 + 1, none⟩ = some (σ (some ⟨bc, oc, none⟩) cs.length cu) ∧ w'.cell? ⟨g, m, none⟩ = some (O ι (x : Int)) ∧ w'.cell? ⟨bc, oc + x * 3, none⟩ = some (O ι A) ∧ w'.cell? ⟨bc, oc + x * 3 + 1, none⟩ = some (.float .f64 B) ∧ w'.cell? ⟨bc, oc + x * 3 + 2, none⟩ = some (.float .f64 C)) wr.drew) := ⟨s0', s1', s2', s3', s4', s5'⟩
   have hS : Hid (∀ W : World, w2.grownBy W (some (w.heap.size + 1 + 1)) → (fun w' => w'.cell? ⟨w.heap.size, 0, none⟩ = some (σ (some ⟨bs, os, none⟩) ss.length cap) ∧ w'.cell? ⟨bs, os + k * 2 + 1, none⟩ = some (σ (some ⟨bc, oc, none⟩) cs.length cu) ∧ w'.cell? ⟨g, m, none⟩ = some (O ι (x : Int)) ∧ w'.cell? ⟨bc, oc + x * 3, none⟩ = some (O ι A) ∧ w'.cell? ⟨bc, oc + x * 3 + 1, none⟩ = some (.float .f64 B) ∧ w'.cell? ⟨bc, oc + x * 3 + 2, none⟩ = some (.float .f64 C)) W) := fun W hW => ⟨zb1 hW (by omega) c2', zb1 hW (by omega) q1, zb1 hW (by omega) l0, zb1 hW (by omega) t0, zb1 hW (by omega) t1, zb1 hW (by omega) t2⟩
   have HGA := hide (zn17 (zc14 HGR.out (χ #[O ι A, .float .f64 B, .float .f64 C] 66)))
   have SB := hide (hS.out _ HGA.out)
   have hnews := World.news_of_block (w := (wr.alloc (χ #[O ι A, .float .f64 B, .float .f64 C] 66)).drew) (cs := #[O ι A, .float .f64 B, .float .f64 C]) (t := 66) (fr := (0, 0)) (heap_alloc_new wr _)
   have HN := hide hnews
   clear hnews
   have hbase : w.heap.size + 1 + 1 ≤ ((wr.alloc (χ #[O ι A, .float .f64 B, .float .f64 C] 66)).drew).heap.size := by show _ ≤ (wr.alloc _).heap.size; simp; omega
   have hH : ((wr.alloc (χ #[O ι A, .float .f64 B, .float .f64 C] 66)).drew).heap.size = wr.heap.size + 1 := by show (wr.alloc _).heap.size = _; simp
   have h63 : m + 1 ≤ maxLen := by unfold maxLen; omega
   have h24 : (m + 1) * 24 ≤ 140737488355328 := by omega
   go_wp2_with fail
   go_region_held3 (fun w' => w'.cell? ⟨w.heap.size, 0, none⟩ = some (σ (some ⟨bs, os, none⟩) ss.length cap) ∧ w'.cell? ⟨bs, os + k * 2 + 1, none⟩ = some (σ (some ⟨bc, oc, none⟩) cs.length cu) ∧ w'.cell? ⟨g, m, none⟩ = some (O ι (x : Int)) ∧ w'.cell? ⟨bc, oc + x * 3, none⟩ = some (O ι A) ∧ w'.cell? ⟨bc, oc + x * 3 + 1, none⟩ = some (.float .f64 B) ∧ w'.cell? ⟨bc, oc + x * 3 + 2, none⟩ = some (.float .f64 C)) (first | with_reducible exact SA.out | with_reducible exact SB.out | with_reducible exact SC.out | exact SA.out | exact SB.out | exact SC.out | fail) ((refine step_append_lies _ (by rfl) (.tmp 19) (.tmp 32) 61 (by rfl) (w.heap.size + 1 + 1) 66 i59 (γ #[O ι 0, .float .f64 0, .float .f64 0]) 3 24 Tryz.underlying61 hi59 hy0 hy1 hy2 rfl (by omega) _ m _ (by rfl) ((HOW.out.alloc _).drew) ⟨wr.heap.size, 0, none⟩ 1 1 (c3v (A, B, C)) (by rfl) (by rfl) HN.out (zt7 _) (by omega) h63 h24 hbase (wr.heap.size + 1) hH ?_; intro g9 cap9 w9 hown9 hgrow9 hat9 hlt9; have HG9 := hide (zm17 HGA.out hgrow9 HOB.out); have SC := hide (hS.out _ HG9.out); have HO9 := hide hown9; have HA9 := hide hat9; clear hown9 hgrow9 hat9))
   go_wp2
   go_roundw
   ·refine ⟨m + 1, by go_num, by omega, ?_, ?_, HG9.out⟩
    ·rw [HT2.out, ze6]
     exact HO9.out
    ·rcases HA9.out with e | e
     ·rcases HOB.out with q | ⟨z, q, hz⟩
      ·exact Or.inl (by rw [← q, e]; rfl)
      ·exact Or.inr ⟨z, by rw [← q, e]; rfl, hz⟩
     ·exact Or.inr ⟨g9, rfl, by omega⟩
   ·simp [intOf]; omega
  ·have hmm : m = L.length := by omega
   subst hmm
   have H1 := HOW.out
   rw [List.take_length] at H1
   obtain ⟨sz, cz, rfl, ho⟩ := zq4 (lo := w.heap.size) (by omega) H1
   have HB : Bel w wr := ⟨HGR.out.os.trans X2.out.os, HGR.out.tape.trans X2.out.tape, HGR.out.output.trans X2.out.output, Nat.le_trans X2.out.size HGR.out.size, fun j hj => (HGR.out.block j (Nat.lt_of_lt_of_le hj X2.out.size) (fun e => by cases e; omega)).trans (X2.out.block j hj)⟩
   have HHo := hide ho
   have HHB := hide HB
   clear ho H1 HB
   go_wp2
   go_ret
   rw [hL.out]
   exact ⟨sz, cz, rfl, HHo.out, HHB.out⟩
structure MuB (b : Nat) (w w' : World) : Prop where
 os : w'.os = w.os
 tape : w'.tape = w.tape
 output : w'.output = w.output
 size : w.heap.size ≤ w'.heap.size
 block : ∀ k, k < w.heap.size → k ≠ b → w'.heap[k]? = w.heap[k]?
theorem MuB.refl (b : Nat) (w : World) : MuB b w w := ⟨rfl, rfl, rfl, Nat.le_refl _, fun _ _ _ => rfl⟩
theorem MuB.bel {b : Nat} {w w1 w2 : World} (h : MuB b w w1) (x : Bel w1 w2) : MuB b w w2 := ⟨x.os.trans h.os, x.tape.trans h.tape, x.output.trans h.output, Nat.le_trans h.size x.size, fun k hk hn => (x.block k (Nat.lt_of_lt_of_le hk h.size)).trans (h.block k hk hn)⟩
theorem MuB.set {b : Nat} {w w1 : World} (h : MuB b w w1) (o : Nat) (v : Value) : MuB b w (w1.setCell ⟨b, o, none⟩ v) := ⟨h.os, h.tape, h.output, by have := h.size; simpa [World.setCell] using this, fun k hk hn => (Below.heap_setCell _ _ _ _ hn).trans (h.block k hk hn)⟩
theorem MuB.box {b : Nat} {w w1 : World} (h : MuB b w w1) {c o : Nat} {v : Value} (hc : c ≠ b) (hv : w.cell? ⟨c, o, none⟩ = some v) : w1.cell? ⟨c, o, none⟩ = some v := (World.cell?_of_block (w := w) (a := ⟨c, o, none⟩) (h.block c (zj hv) hc)).trans hv
theorem MuB.frozen {b : Nat} {w w1 : World} (h : MuB b w w1) {c o : Nat} (hc : c ≠ b) (hl : c < w.heap.size) : w1.frozen? ⟨c, o, none⟩ = w.frozen? ⟨c, o, none⟩ := World.frozen?_of_block (w := w) (a := ⟨c, o, none⟩) (h.block c hl hc)
theorem MuB.below {b : Nat} {w0 w w1 : World} (h : MuB b w w1) (x : Bel w0 w) (hb : w0.heap.size ≤ b) : Bel w0 w1 := ⟨h.os.trans x.os, h.tape.trans x.tape, h.output.trans x.output, Nat.le_trans x.size h.size, fun k hk => (h.block k (Nat.lt_of_lt_of_le hk x.size) (by omega)).trans (x.block k hk)⟩
structure SoI (w5 : World) (cB n : Nat) (C : List C3) (W : World) : Prop where
 row : CRow W cB 0 C
 len : C.length = n
 fz : ∀ o, W.frozen? ⟨cB, o, none⟩ = false
 mu : MuB cB w5 W
 lt : cB < w5.heap.size
theorem SoI.bel {w5 : World} {cB n : Nat} {C : List C3} {W W' : World} (h : SoI w5 cB n C W) (x : Bel W W') : SoI w5 cB n C W' :=
 ⟨h.row.keep x, h.len, fun o => (Below.frozen x (p := ⟨cB, o, none⟩) (Nat.lt_of_lt_of_le h.lt h.mu.size)).trans (h.fz o), h.mu.bel x, h.lt⟩
theorem SoI.set {w5 : World} {cB n p : Nat} {C : List C3} {W : World} (h : SoI w5 cB n C W) (hp : p < n) (c : C3) : SoI w5 cB n (C.set p c) (setC W cB (p * 3) c) := by
 refine ⟨?_, by rw [List.length_set]; exact h.len, fun o => (zy12 _ _ _ _ _).trans (h.fz o), ((h.mu.set _ _).set _ _).set _ _, h.lt⟩
 have q := h.row.set p (by rw [h.len]; exact hp) c
 simp only [Nat.zero_add] at q
 exact q
theorem ze7 (W : World) (n : Nat) (hn : n ≤ 4096) : (Instr.makeSlice 61 (O ι n) (O ι n)).run Tryz.prog W = .ok (σ (some ⟨W.heap.size, 0, none⟩) n n) (W.alloc (χ (madeCells #[O ι 0, .float .f64 0, .float .f64 0] (n * 3)) 66)) := by
 obtain ⟨i0, hi0, hz0, hz1, hz2⟩ := info_parts zx4
 have h := run_make (P := Tryz.prog) W 61 66 i0 (γ #[O ι 0, .float .f64 0, .float .f64 0]) Tryz.underlying61 hi0 hz0 .i64 .i64 n n (by omega) (by omega) (by rw [hz2]; omega) (by omega)
 rw [hz1] at h
 simp only [Int.toNat_natCast] at h
 exact h
theorem ze12 (W : World) (n : Nat) : CRow (W.alloc (χ (madeCells #[O ι 0, .float .f64 0, .float .f64 0] (n * 3)) 66)) W.heap.size 0 (List.replicate n k0) := fun j hj => by
 have q := fun i => zd W (madeCells #[O ι 0, .float .f64 0, .float .f64 0] (n * 3)) 66 W.heap.size rfl i
 simp at hj
 rw [Nat.zero_add, q, q, q]
 have e : (List.replicate n k0).getD j k0 = k0 := by rw [List.getD_eq_getElem?_getD, List.getElem?_replicate]; split <;> rfl
 rw [e]
 have m0 : j * 3 % 3 = 0 := by omega
 have m1 : (j * 3 + 1) % 3 = 1 := by omega
 have m2 : (j * 3 + 2) % 3 = 2 := by omega
 have l0 : j * 3 < n * 3 := by omega
 have l1 : j * 3 + 1 < n * 3 := by omega
 have l2 : j * 3 + 2 < n * 3 := by omega
 simp [madeCells, l0, l1, l2, m0, m1, m2, k0]
structure SBy (w : World) (hv : Value) (A1 : List Value) (W : World) : Prop where
 h : W.cell? ⟨w.heap.size, 0, none⟩ = some hv
 a : ∀ j x, A1[j]? = some x → W.cell? ⟨w.heap.size + 1, j, none⟩ = some x
 r0 : W.cell? ⟨w.heap.size + 2, 0, none⟩ = some (O ι 0)
 r1 : W.cell? ⟨w.heap.size + 2, 1, none⟩ = some (σ none 0 0)
 fz : ∀ j, W.frozen? ⟨w.heap.size + 2, j, none⟩ = false
 bl : Bel w W
 sz : w.heap.size + 3 ≤ W.heap.size
theorem SBy.keep {w : World} {hv : Value} {A1 : List Value} {W W' : World} (h : SBy w hv A1 W) (x : Bel W W') : SBy w hv A1 W' :=
 ⟨Bel.box x h.h, fun j y hy => Bel.box x (h.a j y hy), Bel.box x h.r0, Bel.box x h.r1, fun j => (Below.frozen x (p := ⟨w.heap.size + 2, j, none⟩) (zj h.r0)).trans (h.fz j), Bel.tr h.bl x, Nat.le_trans h.sz x.size⟩
theorem SBy.start (w : World) (hv : Value) (A1 : List Value) : SBy w hv A1 (((w.alloc (χ #[hv] 34)).alloc (.cells A1.toArray 41)).alloc (χ #[O ι 0, σ none 0 0] 36)) := by
 have e1 := ((Ext.refl (w.alloc (χ #[hv] 34))).alloc A1.toArray 41).alloc #[O ι 0, σ none 0 0] 36
 have e2 := (Ext.refl ((w.alloc (χ #[hv] 34)).alloc (.cells A1.toArray 41))).alloc #[O ι 0, σ none 0 0] 36
 have e0 := (((Ext.refl w).alloc #[hv] 34).alloc A1.toArray 41).alloc #[O ι 0, σ none 0 0] 36
 exact ⟨e1.box (zd w #[hv] 34 _ rfl 0), fun j x hx => e2.box ((zd _ A1.toArray 41 (w.heap.size + 1) (by simp) j).trans (by simpa using hx)), zd _ #[O ι 0, σ none 0 0] 36 (w.heap.size + 2) (by simp) 0, zd _ #[O ι 0, σ none 0 0] 36 (w.heap.size + 2) (by simp) 1, fun j => e0.unfrozen (by omega) j, e0.bl, by simp⟩
def SsoOk (w : World) (ss : List St) (a : Ar) (ax : Int) (e : Ending) (w' : World) : Prop := ∃ c u ts, e = .returned (γ #[O ι c, u]) ∧ SortOk ss a ax c ts ∧ MSp w' w.heap.size u ts ∧ Bel w w'
theorem zc27 {w W : World} {dt : Int} {X : List C3} {L : List Int} {K : Nat} {v : Value} {P : List C3} (h : PkI w dt X L K v P W) (hK : 0 < K) : ∃ g cap, v = σ (some ⟨g, 0, none⟩) K cap ∧ w.heap.size ≤ g ∧ g < W.heap.size ∧ CF W g 0 K (fun i => P.getD i k0) := by
 obtain ⟨g, cap, rfl, hl⟩ := zq18 h.own hK
 have hc := ze4 h.own h.len.symm
 refine ⟨g, cap, rfl, hl, zj (hc 0 (by rw [h.len]; exact hK)).1, fun j hj => ?_⟩
 exact hc j (by rw [h.len]; exact hj)
def lastC (xs sv : List Int) (off fr to : Int) : Int := if WrV xs sv off then (if castL fr to 1 = true then 0 else 10) else 9
theorem zq13 {w : World} {v vS vT : Value} {ss : List St} {xs sv : List Int} (h : SV w v ss) (m : Nat) (off : Int) (hm : m < ss.length) {fr to : Int} (h8 : (ss.getD m s0).1 = to) (hS : Ints w vS xs) (hT : Ints w vT sv) (lx : xs.length ≤ 1048576) (ls : sv.length ≤ 1048576) :
  Calls Tryz.prog 71 #[γ #[v], O ι fr, γ #[O ι m, vS, vT, O ι off]] w fun e w' => e = .returned (O ι (lastC xs sv off fr to)) ∧ Bel w w' := by
 obtain ⟨sa, cap, rfl, hx⟩ := h
 have h : SV w (σ sa ss.length cap) ss := ⟨sa, cap, rfl, hx⟩
 obtain ⟨s1, d1, rfl, hS'⟩ := hS
 obtain ⟨s2, d2, rfl, hT'⟩ := hT
 have hS : Ints w (σ s1 xs.length d1) xs := ⟨s1, d1, rfl, hS'⟩
 have hT : Ints w (σ s2 sv.length d2) sv := ⟨s2, d2, rfl, hT'⟩
 have x0 : Ext w ((w.alloc (χ #[σ sa ss.length cap] 34)).alloc (χ #[O ι m, σ s1 xs.length d1, σ s2 sv.length d2, O ι off] 41)) := ((Ext.refl w).alloc _ _).alloc _ _
 have xa : Ext (w.alloc (χ #[σ sa ss.length cap] 34)) ((w.alloc (χ #[σ sa ss.length cap] 34)).alloc (χ #[O ι m, σ s1 xs.length d1, σ s2 sv.length d2, O ι off] 41)) := (Ext.refl _).alloc _ _
 have k0 := xa.box (zd w #[σ sa ss.length cap] 34 w.heap.size rfl 0)
 have n1 := fun j => zd (w.alloc (χ #[σ sa ss.length cap] 34)) #[O ι m, σ s1 xs.length d1, σ s2 sv.length d2, O ι off] 41 (w.heap.size + 1) (by simp) j
 have a0 := n1 0
 have a1 := n1 1
 have a2 := n1 2
 have a3 := n1 3
 simp only [List.getElem?_toArray, List.getElem?_cons_zero, List.getElem?_cons_succ] at k0 a0 a1 a2 a3
 have HWR := hide (zg18 (hS.ext x0) (hT.ext x0) off lx ls)
 have X0 := hide x0
 have HH := hide h
 clear n1 xa x0 hx hS hT hS' hT' h
 cases hw : (dcWrV xs sv off) with
 | false =>
  rw [hw] at HWR
  have hc : Hid (lastC xs sv off fr to = 9) := by show _ = _; unfold lastC; rw [if_neg (of_decide_eq_false hw)]
  clear h8
  go_enter Tryz.func71, Tryz.ntmps71
  go_wp2_with fail
  generalize ((w.alloc (χ #[σ sa ss.length cap] 34)).alloc (χ #[O ι m, σ s1 xs.length d1, σ s2 sv.length d2, O ι off] 41)) = W0 at *
  refine HWR.out.mono ?_
  rintro e w1 ⟨rfl, b1⟩
  have B1 := hide (Bel.tr X0.out.bl b1)
  clear b1
  go_wp2
  go_ret
  exact ⟨by rw [hc.out]; rfl, B1.out⟩
 | true =>
  rw [hw] at HWR
  have hc : Hid (lastC xs sv off fr to = if castL fr to 1 = true then 0 else 10) := by show _ = _; unfold lastC; rw [if_pos (of_decide_eq_true hw)]
  go_enter Tryz.func71, Tryz.ntmps71
  go_wp2_with fail
  generalize ((w.alloc (χ #[σ sa ss.length cap] 34)).alloc (χ #[O ι m, σ s1 xs.length d1, σ s2 sv.length d2, O ι off] 41)) = W0 at *
  refine HWR.out.mono ?_
  rintro e w1 ⟨rfl, b1⟩
  have k0 := Bel.box b1 k0
  have a0 := Bel.box b1 a0
  have a1 := Bel.box b1 a1
  have a2 := Bel.box b1 a2
  have a3 := Bel.box b1 a3
  have B1 := hide (Bel.tr X0.out.bl b1)
  have HTY := hide (zz3 (vS := σ s1 xs.length d1) (vT := σ s2 sv.length d2) (HH.out.keep B1.out) (m : Int) off (Int.natCast_nonneg _) (by omega))
  rw [Int.toNat_natCast, h8] at HTY
  clear b1 HWR h8
  go_wp2_with fail
  refine HTY.out.mono ?_
  rintro e w2 ⟨rfl, x2⟩
  have B2 := hide (Bel.tr B1.out x2.bl)
  clear x2
  cases hcc : castL fr to 1 with
  | false =>
   rw [hcc] at hc
   go_wp2_with (go_at_call 108; refine (zo3 _ _ _ _).mono ?_; rintro e w' ⟨rfl, rfl⟩; rw [hcc])
   go_ret
   exact ⟨by rw [hc.out]; rfl, B2.out⟩
  | true =>
   rw [hcc] at hc
   go_wp2_with (go_at_call 108; refine (zo3 _ _ _ _).mono ?_; rintro e w' ⟨rfl, rfl⟩; rw [hcc])
   go_ret
   exact ⟨by rw [hc.out]; rfl, B2.out⟩
theorem zi11 {w : World} {v vS vT vX : Value} {ss : List St} {xs sv : List Int} {fr to : Int} (h : SV w v ss) (m : Nat) (off : Int) (hm : m < ss.length) (h8 : (ss.getD m s0).1 = to) (hS : Ints w vS xs) (hT : Ints w vT sv) (lx : xs.length ≤ 1048576) (ls : sv.length ≤ 1048576) (hne : lastC xs sv off fr to ≠ 0) :
  Calls Tryz.prog 31 #[γ #[v], O ι fr, vX, γ #[O ι m, vS, vT, O ι off]] w fun e w' => e = .returned (γ #[O ι (lastC xs sv off fr to), σ none 0 0]) ∧ Bel w w' := by
 obtain ⟨sa, cap, rfl, hx⟩ := h
 have h : SV w (σ sa ss.length cap) ss := ⟨sa, cap, rfl, hx⟩
 obtain ⟨s1, d1, rfl, hS'⟩ := hS
 obtain ⟨s2, d2, rfl, hT'⟩ := hT
 have hS : Ints w (σ s1 xs.length d1) xs := ⟨s1, d1, rfl, hS'⟩
 have hT : Ints w (σ s2 sv.length d2) sv := ⟨s2, d2, rfl, hT'⟩
 have BX := SBy.start w (σ sa ss.length cap) [O ι m, σ s1 xs.length d1, σ s2 sv.length d2, O ι off]
 have HB := hide BX
 have b0 := BX.h
 have a0 := BX.a 0 _ rfl
 have a1 := BX.a 1 _ rfl
 have a2 := BX.a 2 _ rfl
 have a3 := BX.a 3 _ rfl
 have HLA := hide (zq13 (fr := fr) (h.keep BX.bl) m off hm h8 (zk hS BX.bl) (zk hT BX.bl) lx ls)
 generalize lastC xs sv off fr to = c at HLA hne ⊢
 have hnb : (c == 0) = false := by rw [beq_eq_false_iff_ne]; exact hne
 clear BX hx hS hT hS' hT' h h8
 go_enter Tryz.func31, Tryz.ntmps31
 go_wp2_with fail
 refine HLA.out.mono ?_
 rintro e w1 ⟨rfl, b1⟩
 have HB1 := hide (HB.out.keep b1)
 have r0 := HB1.out.r0
 have r1 := HB1.out.r1
 have f0 := HB1.out.fz 0
 have f1 := HB1.out.fz 1
 clear b1 HLA HB b0 a0 a1 a2 a3
 go_wp2
 refine bodyPost_ret (v := γ #[O ι c, σ none 0 0]) (by simp [results, Tryz.results31, go_sem, r0, r1]) rfl ⟨rfl, ?_⟩
 first
  | exact (HB1.out.bl.setCell (p := ⟨w.heap.size + 1 + 1, 0, none⟩) (by show _ ≤ w.heap.size + 1 + 1; omega) _).setCell (p := ⟨w.heap.size + 1 + 1, 1, none⟩) (by show _ ≤ w.heap.size + 1 + 1; omega) _
  | exact HB1.out.bl.setCell (p := ⟨w.heap.size + 1 + 1, 0, none⟩) (by show _ ≤ w.heap.size + 1 + 1; omega) _

end
section
open Go.ChangeShapes Go.RowKit FL Ieee
def cvI (to k : Int) : C3 := if to = 7 then (0, wide (floatOfInt .f32 k), 0) else if to = 8 ∨ to = 9 then (0, floatOfInt .f64 k, 0) else (cutL to k, 0, 0)
theorem zl14 {to k : Int} (h : 2 ≤ to ∧ to ≤ 6) : cvI to k = (cutL to k, 0, 0) := by
 unfold cvI
 rw [if_neg (by omega), if_neg (by omega)]
theorem zq22 (n : Int) : floatOfInt .f32 n < 4294967296 := by
 have h := single.write_lt (.number (decide (n < 0)) n.natAbs 0)
 exact Nat.lt_of_lt_of_le h (by decide)
theorem zf18 (n : Int) : nanS (floatOfInt .f32 n) = false := by
 have key : ∀ y : Nat, y % 2147483648 ≤ 2139095040 → nanS y = false := fun y h => by
  cases e : nanS y
  ·rfl
  ·have := (zl3 y).1 e; omega
 have word : ∀ neg r, r ≤ 2139095040 → single.word neg r % 2147483648 ≤ 2139095040 := fun neg r h => by
  have := (zw5 single neg r (by rw [zv27]; omega)).1
  rw [zv27] at this; omega
 apply key
 show single.nearest _ _ _ % _ ≤ _
 unfold Format.nearest
 split
 ·exact word _ _ (by omega)
 ·refine word _ _ ?_
  rw [← zt27]; exact Nat.min_le_right _ _
theorem zw24 (i : Int) (w : World) : Calls Tryz.prog 146 #[O ι 7, O ι i] w fun e w' => e = .returned (cellV (cvI 7 i)) ∧ Ext w w' := by
 have c2 := run_convert_float_float (P := Tryz.prog) (w.alloc (χ #[O ι 0, .float .f64 0, .float .f64 0] 66)) 162 64 .f32 .f64 (floatOfInt .f32 i) (wide (floatOfInt .f32 i)) zg4 Tryz.underlying64 (zg5 _ (zq22 i) (zf18 i))
 go_enter Tryz.func146, Tryz.ntmps146
 go_wp2
 exact bodyPost_ret (v := γ #[O ι 0, .float .f64 (wide (floatOfInt .f32 i)), .float .f64 0]) (by simp [results, Tryz.results146, go_sem]) rfl ⟨rfl, by repeat (first | with_reducible exact Ext.refl _ | with_reducible refine Ext.setCell ?_ (by simp; try omega) _ | with_reducible apply Ext.drewN | with_reducible apply Ext.drew | with_reducible apply Ext.alloc | refine Ext.trans ?_ (by assumption))⟩
theorem zi22 (to i : Int) (h : to = 8 ∨ to = 9) (w : World) : Calls Tryz.prog 146 #[O ι to, O ι i] w fun e w' => e = .returned (cellV (cvI to i)) ∧ Ext w w' := by
 rcases h with rfl | rfl
 all_goals
  go_enter Tryz.func146, Tryz.ntmps146
  go_wp2
  exact bodyPost_ret (v := γ #[O ι 0, .float .f64 (floatOfInt .f64 i), .float .f64 0]) (by simp [results, Tryz.results146, go_sem]) rfl ⟨rfl, by repeat (first | with_reducible exact Ext.refl _ | with_reducible refine Ext.setCell ?_ (by simp; try omega) _ | with_reducible apply Ext.drewN | with_reducible apply Ext.drew | with_reducible apply Ext.alloc | refine Ext.trans ?_ (by assumption))⟩
theorem zg20 (to i : Int) (h : 2 ≤ to ∧ to ≤ 6) (w : World) : Calls Tryz.prog 146 #[O ι to, O ι i] w fun e w' => e = .returned (cellV (cvI to i)) ∧ Ext w w' := by
 have d1 : (to == 1) = false := by simp; omega
 have d7 : (to == 7) = false := by simp; omega
 have d8 : (to == 8) = false := by simp; omega
 have d9 : (to == 9) = false := by simp; omega
 have H := hide h
 clear h
 go_enter Tryz.func146, Tryz.ntmps146
 go_wp2_with fail
 refine (zq7 to i _).mono ?_
 rintro e w1 ⟨rfl, rfl⟩
 go_wp2
 exact bodyPost_ret (v := γ #[O ι (cutL to i), .float .f64 0, .float .f64 0]) (by simp [results, Tryz.results146, go_sem]) rfl ⟨by rw [zl14 H.out]; rfl, by repeat (first | with_reducible exact Ext.refl _ | with_reducible refine Ext.setCell ?_ (by simp; try omega) _ | with_reducible apply Ext.drewN | with_reducible apply Ext.drew | with_reducible apply Ext.alloc | refine Ext.trans ?_ (by assumption))⟩
theorem zv17 (to i : Int) (h : 2 ≤ to ∧ to ≤ 9) (w : World) : Calls Tryz.prog 146 #[O ι to, O ι i] w fun e w' => e = .returned (cellV (cvI to i)) ∧ Ext w w' := by
 by_cases h7 : to = 7
 ·subst h7; exact zw24 i w
 by_cases h8 : to = 8 ∨ to = 9
 ·exact zi22 to i h8 w
 ·exact zg20 to i (by omega) w
theorem ze8 {k : Int} (hk : I64 k) : validB 6 k 0 0 = true := by
 have e1 : pzB 0 = true := by decide
 have e2 : rngB 6 k = true := decide_eq_true (by
  have a : lowL 6 = -9223372036854775808 := by decide
  have b : highL 6 = 9223372036854775807 := by decide
  unfold I64 at hk
  rw [a, b]; omega)
 unfold validB
 rw [if_pos (by omega), e1, e2]
 rfl
theorem zt26 {to k : Int} (hk : I64 k) (ht : 2 ≤ to ∧ to ≤ 9) (w : World) :
  Calls Tryz.prog 125 #[O ι 6, O ι to, cellV (k, 0, 0)] w fun e w' => e = .returned (cellV (cvI to k)) ∧ Ext w w' := by
 by_cases h6 : to = 6
 ·subst h6
  have e : cvI 6 k = (k, 0, 0) := by
   rw [zl14 (by omega)]
   have := zm14 6 k (by omega) hk
   have r : lowL 6 ≤ k ∧ k ≤ highL 6 := by
    have a : lowL 6 = -9223372036854775808 := by decide
    have b : highL 6 = 9223372036854775807 := by decide
    unfold I64 at hk
    rw [a, b]; omega
   rw [decide_eq_true r] at this
   rw [eq_of_beq this]
  rw [e]
  exact zs26 ⟨hk, by show B64 0; unfold B64; omega, by show B64 0; unfold B64; omega, ze8 hk⟩ (by decide) w
 ·unfold cellV
  have x0 : Ext w (w.alloc (χ #[O ι k, .float .f64 0, .float .f64 0] 66)) := (Ext.refl w).alloc _ _
  have x1 : Ext (w.alloc (χ #[O ι k, .float .f64 0, .float .f64 0] 66)) ((w.alloc (χ #[O ι k, .float .f64 0, .float .f64 0] 66)).alloc (χ #[O ι 0, .float .f64 0, .float .f64 0] 66)) := (Ext.refl _).alloc _ _
  have X0 := hide (x0.trans x1)
  have n0 := fun j => zd w #[O ι k, .float .f64 0, .float .f64 0] 66 w.heap.size rfl j
  have n1 := fun j => zd (w.alloc (χ #[O ι k, .float .f64 0, .float .f64 0] 66)) #[O ι 0, .float .f64 0, .float .f64 0] 66 (w.heap.size + 1) (by simp) j
  have k0 := x1.box (n0 0)
  have k1 := x1.box (n0 1)
  have k2 := x1.box (n0 2)
  have m0 := n1 0
  have m1 := n1 1
  have m2 := n1 2
  simp only [List.getElem?_toArray, List.getElem?_cons_zero, List.getElem?_cons_succ] at m0 m1 m2
  clear n0 n1 x0 x1
  have hval := hide (fun W => zd1 6 k 0 0 hk (by unfold B64; omega) (by unfold B64; omega) W)
  rw [ze8 hk] at hval
  have hdt : isDtB to = true := decide_eq_true (by omega)
  have hk6 : kindL 6 = 1 := by decide
  have h6b : ((6 : Int) == to) = false := by rw [beq_eq_false_iff_ne]; omega
  have HCI := hide (fun W => zv17 to k ht W)
  generalize cvI to k = cv at HCI ⊢
  obtain ⟨ci, cf, cg⟩ := cv
  unfold cellV at HCI
  clear ht hk h6
  go_enter Tryz.func125, Tryz.ntmps125
  go_wp2_with (go_at_call 116; refine (zp1 _ _).mono ?_; rintro e w' ⟨rfl, rfl⟩; rw [hdt])
  generalize ((w.alloc (χ #[O ι k, .float .f64 0, .float .f64 0] 66)).alloc (χ #[O ι 0, .float .f64 0, .float .f64 0] 66)) = W0 at *
  refine (hval.out _).mono ?_
  rintro e w1 ⟨rfl, x1⟩
  have c0 := x1.box k0
  have HX := hide (X0.out.trans x1)
  have D0 := hide (x1.box m0)
  have D1 := hide (x1.box m1)
  have D2 := hide (x1.box m2)
  clear x1 k0 k1 k2 m0 m1 m2 X0 hval
  go_wp2_with (go_at_call 118; refine (zf1 _ _).mono ?_; rintro e w' ⟨rfl, rfl⟩; rw [hk6])
  refine (HCI.out _).mono ?_
  rintro e w2 ⟨rfl, x2⟩
  have d0 := x2.box D0.out
  have d1 := x2.box D1.out
  have d2 := x2.box D2.out
  have HX2 := hide (HX.out.trans x2)
  have fz := fun (q : Nat) => HX2.out.unfrozen (b := w.heap.size + 1) (by omega) q
  have hf := fz 0
  have hf1 := fz 1
  have hf2 := fz 2
  clear x2 fz D0 D1 D2 HX HCI c0
  go_wp2_with fail
  refine bodyPost_ret (v := γ #[O ι ci, .float .f64 cf, .float .f64 cg]) (by simp [results, Tryz.results125, go_sem, d0, d1, d2]) rfl ⟨rfl, ?_⟩
  exact ((HX2.out.setCell (p := ⟨w.heap.size + 1, 0, none⟩) (by show _ ≤ w.heap.size + 1; omega) _).setCell (p := ⟨w.heap.size + 1, 1, none⟩) (by show _ ≤ w.heap.size + 1; omega) _).setCell (p := ⟨w.heap.size + 1, 2, none⟩) (by show _ ≤ w.heap.size + 1; omega) _
theorem zl16 {to k : Int} (hk : I64 k) (h26 : 2 ≤ to ∧ to ≤ 6) (w : World) :
  Calls Tryz.prog 73 #[O ι 6, O ι to, γ #[O ι k, .float .f64 0, .float .f64 0]] w fun e w' => e = .returned (cellV (cvI to k)) ∧ Ext w w' := by
 have x0 : Ext w (w.alloc (χ #[O ι k, .float .f64 0, .float .f64 0] 66)) := (Ext.refl w).alloc _ _
 have x1 : Ext (w.alloc (χ #[O ι k, .float .f64 0, .float .f64 0] 66)) ((w.alloc (χ #[O ι k, .float .f64 0, .float .f64 0] 66)).alloc (χ #[O ι 0, .float .f64 0, .float .f64 0] 66)) := (Ext.refl _).alloc _ _
 have X0 := hide (x0.trans x1)
 have n0 := fun j => zd w #[O ι k, .float .f64 0, .float .f64 0] 66 w.heap.size rfl j
 have n1 := fun j => zd (w.alloc (χ #[O ι k, .float .f64 0, .float .f64 0] 66)) #[O ι 0, .float .f64 0, .float .f64 0] 66 (w.heap.size + 1) (by simp) j
 have k0 := x1.box (n0 0)
 have k1 := x1.box (n0 1)
 have k2 := x1.box (n0 2)
 have m0 := n1 0
 have m1 := n1 1
 have m2 := n1 2
 simp only [List.getElem?_toArray, List.getElem?_cons_zero, List.getElem?_cons_succ] at m0 m1 m2
 clear n0 n1 x0 x1
 have hv0 : validB 6 k 0 0 = true := ze8 hk
 have hkf : skindL 6 = 1 := by decide
 have hkt : skindL to = 1 := by rcases (show to = 2 ∨ to = 3 ∨ to = 4 ∨ to = 5 ∨ to = 6 by omega) with rfl | rfl | rfl | rfl | rfl <;> rfl
 have HC : Hid (cvI to k = (cutL to k, 0, 0)) := zl14 h26
 have hval := hide (fun W => zu 6 k 0 0 (by unfold B64; omega) (by unfold B64; omega) W)
 have hdt : isDtB to = true := by unfold isDtB; exact decide_eq_true (by omega)
 go_enter Tryz.func73, Tryz.ntmps73
 go_wp2_with fail
 generalize ((w.alloc (χ #[O ι k, .float .f64 0, .float .f64 0] 66)).alloc (χ #[O ι 0, .float .f64 0, .float .f64 0] 66)) = W0 at *
 refine (hval.out _).mono ?_
 rintro e w1 ⟨rfl, x1⟩
 rw [hv0]
 have c0 := x1.box k0
 have c1 := x1.box k1
 have c2 := x1.box k2
 have d0 := x1.box m0
 have d1 := x1.box m1
 have d2 := x1.box m2
 have HX := hide (X0.out.trans x1)
 have fz := fun (q : Nat) => HX.out.unfrozen (b := w.heap.size + 1) (by omega) q
 have hf := fz 0
 have hf1 := fz 1
 have hf2 := fz 2
 clear x1 k0 k1 k2 m0 m1 m2 X0 hval fz
 go_wp2_with (first | (go_at_call 103; refine (zn _ _).mono ?_; rintro e w' ⟨rfl, rfl⟩; rw [hdt]) | (go_at_call 109; refine (zv _ _).mono ?_; rintro e w' ⟨rfl, rfl⟩; first | rw [hkf] | rw [hkt]) | (go_at_call 110; refine (zm11 _ _ h26 hk _).mono ?_; rintro e w' ⟨rfl, rfl⟩))
 refine bodyPost_ret (v := γ #[O ι (cutL to k), .float .f64 0, .float .f64 0]) (by simp [results, Tryz.results73, go_sem, d0, d1, d2]) rfl ⟨by rw [HC.out]; rfl, ?_⟩
 exact ((HX.out.setCell (p := ⟨w.heap.size + 1, 0, none⟩) (by show _ ≤ w.heap.size + 1; omega) _).setCell (p := ⟨w.heap.size + 1, 1, none⟩) (by show _ ≤ w.heap.size + 1; omega) _).setCell (p := ⟨w.heap.size + 1, 2, none⟩) (by show _ ≤ w.heap.size + 1; omega) _
theorem zx20 {k : Int} (hk : I64 k) (w : World) :
  Calls Tryz.prog 73 #[O ι 6, O ι 7, γ #[O ι k, .float .f64 0, .float .f64 0]] w fun e w' => e = .returned (cellV (cvI 7 k)) ∧ Ext w w' := by
 have x0 : Ext w (w.alloc (χ #[O ι k, .float .f64 0, .float .f64 0] 66)) := (Ext.refl w).alloc _ _
 have x1 : Ext (w.alloc (χ #[O ι k, .float .f64 0, .float .f64 0] 66)) ((w.alloc (χ #[O ι k, .float .f64 0, .float .f64 0] 66)).alloc (χ #[O ι 0, .float .f64 0, .float .f64 0] 66)) := (Ext.refl _).alloc _ _
 have X0 := hide (x0.trans x1)
 have n0 := fun j => zd w #[O ι k, .float .f64 0, .float .f64 0] 66 w.heap.size rfl j
 have n1 := fun j => zd (w.alloc (χ #[O ι k, .float .f64 0, .float .f64 0] 66)) #[O ι 0, .float .f64 0, .float .f64 0] 66 (w.heap.size + 1) (by simp) j
 have k0 := x1.box (n0 0)
 have k1 := x1.box (n0 1)
 have k2 := x1.box (n0 2)
 have m0 := n1 0
 have m1 := n1 1
 have m2 := n1 2
 simp only [List.getElem?_toArray, List.getElem?_cons_zero, List.getElem?_cons_succ] at m0 m1 m2
 clear n0 n1 x0 x1
 have hv0 : validB 6 k 0 0 = true := ze8 hk
 have hkf : skindL 6 = 1 := by decide
 have hkt : skindL 7 = 2 := by decide
 have c2 := fun (W : World) => run_convert_float_float (P := Tryz.prog) W 162 64 .f32 .f64 (floatOfInt .f32 k) (wide (floatOfInt .f32 k)) zg4 Tryz.underlying64 (zg5 _ (zq22 k) (zf18 k))
 have hval := hide (fun W => zu 6 k 0 0 (by unfold B64; omega) (by unfold B64; omega) W)
 have hdt : isDtB 7 = true := by decide
 go_enter Tryz.func73, Tryz.ntmps73
 go_wp2_with fail
 generalize ((w.alloc (χ #[O ι k, .float .f64 0, .float .f64 0] 66)).alloc (χ #[O ι 0, .float .f64 0, .float .f64 0] 66)) = W0 at *
 refine (hval.out _).mono ?_
 rintro e w1 ⟨rfl, x1⟩
 rw [hv0]
 have c0 := x1.box k0
 have c1 := x1.box k1
 have c2 := x1.box k2
 have d0 := x1.box m0
 have d1 := x1.box m1
 have d2 := x1.box m2
 have HX := hide (X0.out.trans x1)
 have fz := fun (q : Nat) => HX.out.unfrozen (b := w.heap.size + 1) (by omega) q
 have hf := fz 0
 have hf1 := fz 1
 have hf2 := fz 2
 clear x1 k0 k1 k2 m0 m1 m2 X0 hval fz
 go_wp2_with (first | (go_at_call 103; refine (zn _ _).mono ?_; rintro e w' ⟨rfl, rfl⟩; rw [hdt]) | (go_at_call 109; refine (zv _ _).mono ?_; rintro e w' ⟨rfl, rfl⟩; first | rw [hkf] | rw [hkt]))
 refine bodyPost_ret (v := γ #[O ι 0, .float .f64 (wide (floatOfInt .f32 k)), .float .f64 0]) (by simp [results, Tryz.results73, go_sem, d0, d1, d2]) rfl ⟨rfl, ?_⟩
 exact ((HX.out.setCell (p := ⟨w.heap.size + 1, 0, none⟩) (by show _ ≤ w.heap.size + 1; omega) _).setCell (p := ⟨w.heap.size + 1, 1, none⟩) (by show _ ≤ w.heap.size + 1; omega) _).setCell (p := ⟨w.heap.size + 1, 2, none⟩) (by show _ ≤ w.heap.size + 1; omega) _
theorem zw20 {k : Int} (hk : I64 k) (w : World) :
  Calls Tryz.prog 73 #[O ι 6, O ι 8, γ #[O ι k, .float .f64 0, .float .f64 0]] w fun e w' => e = .returned (cellV (cvI 8 k)) ∧ Ext w w' := by
 have x0 : Ext w (w.alloc (χ #[O ι k, .float .f64 0, .float .f64 0] 66)) := (Ext.refl w).alloc _ _
 have x1 : Ext (w.alloc (χ #[O ι k, .float .f64 0, .float .f64 0] 66)) ((w.alloc (χ #[O ι k, .float .f64 0, .float .f64 0] 66)).alloc (χ #[O ι 0, .float .f64 0, .float .f64 0] 66)) := (Ext.refl _).alloc _ _
 have X0 := hide (x0.trans x1)
 have n0 := fun j => zd w #[O ι k, .float .f64 0, .float .f64 0] 66 w.heap.size rfl j
 have n1 := fun j => zd (w.alloc (χ #[O ι k, .float .f64 0, .float .f64 0] 66)) #[O ι 0, .float .f64 0, .float .f64 0] 66 (w.heap.size + 1) (by simp) j
 have k0 := x1.box (n0 0)
 have k1 := x1.box (n0 1)
 have k2 := x1.box (n0 2)
 have m0 := n1 0
 have m1 := n1 1
 have m2 := n1 2
 simp only [List.getElem?_toArray, List.getElem?_cons_zero, List.getElem?_cons_succ] at m0 m1 m2
 clear n0 n1 x0 x1
 have hv0 : validB 6 k 0 0 = true := ze8 hk
 have hkf : skindL 6 = 1 := by decide
 have hkt : skindL 8 = 2 := by decide
 have hval := hide (fun W => zu 6 k 0 0 (by unfold B64; omega) (by unfold B64; omega) W)
 have hdt : isDtB 8 = true := by decide
 go_enter Tryz.func73, Tryz.ntmps73
 go_wp2_with fail
 generalize ((w.alloc (χ #[O ι k, .float .f64 0, .float .f64 0] 66)).alloc (χ #[O ι 0, .float .f64 0, .float .f64 0] 66)) = W0 at *
 refine (hval.out _).mono ?_
 rintro e w1 ⟨rfl, x1⟩
 rw [hv0]
 have c0 := x1.box k0
 have c1 := x1.box k1
 have c2 := x1.box k2
 have d0 := x1.box m0
 have d1 := x1.box m1
 have d2 := x1.box m2
 have HX := hide (X0.out.trans x1)
 have fz := fun (q : Nat) => HX.out.unfrozen (b := w.heap.size + 1) (by omega) q
 have hf := fz 0
 have hf1 := fz 1
 have hf2 := fz 2
 clear x1 k0 k1 k2 m0 m1 m2 X0 hval fz
 go_wp2_with (first | (go_at_call 103; refine (zn _ _).mono ?_; rintro e w' ⟨rfl, rfl⟩; rw [hdt]) | (go_at_call 109; refine (zv _ _).mono ?_; rintro e w' ⟨rfl, rfl⟩; first | rw [hkf] | rw [hkt]))
 refine bodyPost_ret (v := γ #[O ι 0, .float .f64 (floatOfInt .f64 k), .float .f64 0]) (by simp [results, Tryz.results73, go_sem, d0, d1, d2]) rfl ⟨rfl, ?_⟩
 exact ((HX.out.setCell (p := ⟨w.heap.size + 1, 0, none⟩) (by show _ ≤ w.heap.size + 1; omega) _).setCell (p := ⟨w.heap.size + 1, 1, none⟩) (by show _ ≤ w.heap.size + 1; omega) _).setCell (p := ⟨w.heap.size + 1, 2, none⟩) (by show _ ≤ w.heap.size + 1; omega) _
theorem zv20 {k : Int} (hk : I64 k) (w : World) :
  Calls Tryz.prog 73 #[O ι 6, O ι 9, γ #[O ι k, .float .f64 0, .float .f64 0]] w fun e w' => e = .returned (cellV (cvI 9 k)) ∧ Ext w w' := by
 have x0 : Ext w (w.alloc (χ #[O ι k, .float .f64 0, .float .f64 0] 66)) := (Ext.refl w).alloc _ _
 have x1 : Ext (w.alloc (χ #[O ι k, .float .f64 0, .float .f64 0] 66)) ((w.alloc (χ #[O ι k, .float .f64 0, .float .f64 0] 66)).alloc (χ #[O ι 0, .float .f64 0, .float .f64 0] 66)) := (Ext.refl _).alloc _ _
 have X0 := hide (x0.trans x1)
 have n0 := fun j => zd w #[O ι k, .float .f64 0, .float .f64 0] 66 w.heap.size rfl j
 have n1 := fun j => zd (w.alloc (χ #[O ι k, .float .f64 0, .float .f64 0] 66)) #[O ι 0, .float .f64 0, .float .f64 0] 66 (w.heap.size + 1) (by simp) j
 have k0 := x1.box (n0 0)
 have k1 := x1.box (n0 1)
 have k2 := x1.box (n0 2)
 have m0 := n1 0
 have m1 := n1 1
 have m2 := n1 2
 simp only [List.getElem?_toArray, List.getElem?_cons_zero, List.getElem?_cons_succ] at m0 m1 m2
 clear n0 n1 x0 x1
 have hv0 : validB 6 k 0 0 = true := ze8 hk
 have hkf : skindL 6 = 1 := by decide
 have hkt : skindL 9 = 3 := by decide
 have hval := hide (fun W => zu 6 k 0 0 (by unfold B64; omega) (by unfold B64; omega) W)
 have hdt : isDtB 9 = true := by decide
 go_enter Tryz.func73, Tryz.ntmps73
 go_wp2_with fail
 generalize ((w.alloc (χ #[O ι k, .float .f64 0, .float .f64 0] 66)).alloc (χ #[O ι 0, .float .f64 0, .float .f64 0] 66)) = W0 at *
 refine (hval.out _).mono ?_
 rintro e w1 ⟨rfl, x1⟩
 rw [hv0]
 have c0 := x1.box k0
 have c1 := x1.box k1
 have c2 := x1.box k2
 have d0 := x1.box m0
 have d1 := x1.box m1
 have d2 := x1.box m2
 have HX := hide (X0.out.trans x1)
 have fz := fun (q : Nat) => HX.out.unfrozen (b := w.heap.size + 1) (by omega) q
 have hf := fz 0
 have hf1 := fz 1
 have hf2 := fz 2
 clear x1 k0 k1 k2 m0 m1 m2 X0 hval fz
 go_wp2_with (first | (go_at_call 103; refine (zn _ _).mono ?_; rintro e w' ⟨rfl, rfl⟩; rw [hdt]) | (go_at_call 109; refine (zv _ _).mono ?_; rintro e w' ⟨rfl, rfl⟩; first | rw [hkf] | rw [hkt]))
 refine bodyPost_ret (v := γ #[O ι 0, .float .f64 (floatOfInt .f64 k), .float .f64 0]) (by simp [results, Tryz.results73, go_sem, d0, d1, d2]) rfl ⟨rfl, ?_⟩
 exact ((HX.out.setCell (p := ⟨w.heap.size + 1, 0, none⟩) (by show _ ≤ w.heap.size + 1; omega) _).setCell (p := ⟨w.heap.size + 1, 1, none⟩) (by show _ ≤ w.heap.size + 1; omega) _).setCell (p := ⟨w.heap.size + 1, 2, none⟩) (by show _ ≤ w.heap.size + 1; omega) _
theorem zz25 {to k : Int} (hk : I64 k) (ht : 2 ≤ to ∧ to ≤ 9) (w : World) : Calls Tryz.prog 73 #[O ι 6, O ι to, cellV (k, 0, 0)] w fun e w' => e = .returned (cellV (cvI to k)) ∧ Ext w w' := by
 by_cases h7 : to = 7
 ·subst h7; exact zx20 hk w
 by_cases h8 : to = 8
 ·subst h8; exact zw20 hk w
 by_cases h9 : to = 9
 ·subst h9; exact zv20 hk w
 ·exact zl16 hk (by omega) w
theorem zv24 (dt v : Int) (h : 2 ≤ dt ∧ dt ≤ 6) (hv : I64 v) : I64 (cutL dt v) := by
 unfold I64 at *
 rcases (show dt = 2 ∨ dt = 3 ∨ dt = 4 ∨ dt = 5 ∨ dt = 6 by omega) with rfl | rfl | rfl | rfl | rfl <;> (unfold cutL; simp; try omega)
theorem zy22 {to k : Int} (hk : I64 k) (ht : 2 ≤ to ∧ to ≤ 9) : G1 (cvI to k) := by
 have z : B64 0 := by unfold B64; omega
 have i0 : I64 0 := by unfold I64; omega
 unfold cvI
 by_cases h7 : to = 7
 ·rw [if_pos h7]; exact ⟨i0, zi6 _, z⟩
 ·rw [if_neg h7]
  by_cases h8 : to = 8 ∨ to = 9
  ·rw [if_pos h8]; exact ⟨i0, zm21 k, z⟩
  ·rw [if_neg h8]; exact ⟨zv24 to k (by omega) hk, z, z⟩
end
section
open Go.RowKit Go.ChangeShapes
theorem zj19 (xs ys : List Int) (hl : xs.length = ys.length) (h : ∀ j, j < xs.length → xs.getD j 0 = ys.getD j 0) : xs = ys := by
 refine List.ext_getElem hl fun i h1 h2 => ?_
 have := h i h1
 simpa [List.getD_eq_getElem?_getD, h1, h2] using this
theorem zn10 {w : World} {v u : Value} {xs ys : List Int} (h : Ints w v xs) (k : Ints w u ys) (hl : xs.length ≤ 1048576) (hm : ys.length ≤ 1048576) :
  Calls Tryz.prog 27 #[v, u] w fun e w' => e = .returned (.bool (decide (xs = ys))) ∧ Ext w w' := by
 obtain ⟨sa, cap, rfl, hx⟩ := h
 obtain ⟨sb, dap, rfl, hy⟩ := k
 have HX := hide hx
 have HY := hide hy
 clear hx hy
 by_cases hlen : xs.length = ys.length
 ·go_enter Tryz.func27, Tryz.ntmps27
  go_wp2_with fail
  go_loopw [5] (fun i wr => ∃ k : Nat, i = O ι k ∧ k ≤ xs.length ∧ (∀ j, j < k → xs.getD j 0 = ys.getD j 0) ∧ Ext w wr) (fun i _ => xs.length - (intOf i).toNat)
  case atStart => exact ⟨0, rfl, by omega, fun j hj => by omega, Ext.refl _⟩
  case round =>
   obtain ⟨k, rfl, hk, hsame, he⟩ := hrel
   have HS := hide hsame
   have HE := hide he
   clear hsame he
   by_cases hkn : k < xs.length
   ·rcases HX.out with h0 | ⟨bx, ox, rfl, rx⟩
    ·rw [h0] at hkn; simp at hkn
    rcases HY.out with h0 | ⟨by_, oy, rfl, ry⟩
    ·rw [hlen, h0] at hkn; simp at hkn
    have q0 := HE.out.box (rx k hkn)
    have q1 := HE.out.box (ry k (by omega))
    have k0' : (0 : Int) ≤ (k : Int) := Int.natCast_nonneg _
    have k1 : (k : Int) < (xs.length : Int) := by omega
    have k2 : (k : Int) < (ys.length : Int) := by omega
    clear rx ry
    have hne : Hid (xs.getD k 0 ≠ ys.getD k 0 → decide (xs = ys) = false) := fun q => decide_eq_false (fun e => q (by rw [e]))
    have heq : Hid (xs.getD k 0 = ys.getD k 0 → ∀ j, j < k + 1 → xs.getD j 0 = ys.getD j 0) := fun q j hj => by
     by_cases e : j = k
     ·rw [e]; exact q
     ·exact HS.out j (by omega)
    generalize xs.getD k 0 = a at q0 hne heq
    generalize ys.getD k 0 = b at q1 hne heq
    by_cases hab : a = b
    ·have hb : (a != b) = false := by simp [hab]
     go_wp2_with fail
     go_region
     go_wp2_with fail
     go_roundw
     ·exact ⟨k + 1, by go_num, by omega, heq.out hab, HE.out.drew⟩
     ·simp [intOf]; omega
    ·have hb : (a != b) = true := by simp [hab]
     go_wp2_with fail
     go_region
     go_wp2
     go_ret
     exact ⟨by rw [hne.out hab]; rfl, HE.out.drew⟩
   ·have hkk : k = xs.length := by omega
    subst hkk
    have hd : Hid (decide (xs = ys) = true) := decide_eq_true (zj19 xs ys hlen HS.out)
    go_wp2
    go_ret
    exact ⟨by rw [hd.out]; rfl, HE.out⟩
 ·have hd : Hid (decide (xs = ys) = false) := decide_eq_false (fun e => hlen (by rw [e]))
  have hb : ((xs.length : Int) != (ys.length : Int)) = true := by simp; omega
  go_enter Tryz.func27, Tryz.ntmps27
  go_wp2
  go_ret
  exact ⟨by rw [hd.out]; rfl, Ext.refl _⟩
end
section
open Go.ChangeShapes Go.RowKit FL
def argC (ss : List St) (a : Ar) (ax : Int) (o : Ar) : Int :=
 if firstL ss [a, o] ≠ 0 then firstL ss [a, o] else if ax < 0 ∨ (a.xs.length : Int) ≤ ax then 5 else if a.xs = o.xs then lastC o.xs o.sv o.off 6 (o.dt ss) else 6
def ArgOk (ss : List St) (a : Ar) (ax : Int) (o : Ar) (c : Int) (ts : List St) : Prop := c = argC ss a ax o ∧ ((c ≠ 0 ∧ ts = []) ∨ (c = 0 ∧ PutOk ss o (fun q => cvI (o.dt ss) (ordQ (a.dt ss) (a.rd ss) a.xs ax.toNat q)) ts))
theorem ArgOk.same {ss : List St} {a o : Ar} {ax c c' : Int} {ts ts' : List St} (h : ArgOk ss a ax o c ts) (k : ArgOk ss a ax o c' ts') : c = c' ∧ SSm ts ts' := by
 obtain ⟨h1, h2⟩ := h
 obtain ⟨k1, k2⟩ := k
 have e : c = c' := h1.trans k1.symm
 refine ⟨e, ?_⟩
 rcases h2 with ⟨h2, rfl⟩ | ⟨h2, p⟩
 ·rcases k2 with ⟨_, rfl⟩ | ⟨k2, _⟩
  ·exact SSm.refl _
  ·omega
 ·rcases k2 with ⟨k2, _⟩ | ⟨k2, q⟩
  ·omega
  ·exact p.same q
theorem ArgOk.good {ss : List St} {a o : Ar} {ax c : Int} {ts : List St} (h : ArgOk ss a ax o c ts) (hg : SG ss) : SG ts := by
 obtain ⟨h1, ⟨h2, rfl⟩ | ⟨h2, p⟩⟩ := h
 ·intro s hs; cases hs
 ·exact p.good hg
theorem ArgOk.few {ss : List St} {a o : Ar} {ax c : Int} {ts : List St} (h : ArgOk ss a ax o c ts) (hl : SL ss 1048576) : SL ts 1048576 := by
 obtain ⟨h1, ⟨h2, rfl⟩ | ⟨h2, p⟩⟩ := h
 ·exact ⟨by simp, fun s hs => by cases hs⟩
 ·exact p.few hl
def ixC (k : Int) : C3 := (k, 0, 0)
def IxC (c : C3) : Prop := ∃ k, c = ixC k ∧ I64 k
theorem zw11 {ss : List St} {a o : Ar} (h : firstL ss [a, o] = 0) : vHeap ss = true ∧ a.Good ss ∧ o.Good ss := by
 unfold firstL at h
 split at h
 ·next hv =>
  split at h
  ·next q => exact ⟨hv, q a (by simp), q o (by simp)⟩
  ·omega
 ·omega
theorem zh11 {xs sv : List Int} {off to : Int} (h : lastC xs sv off 6 to = 0) : WrV xs sv off ∧ castL 6 to 1 = true ∧ 2 ≤ to ∧ to ≤ 9 := by
 unfold lastC at h
 split at h
 ·next hw =>
  split at h
  ·next hc =>
   refine ⟨hw, hc, ?_⟩
   by_cases z : to = 1
   ·subst z
    have : castL 6 1 1 = false := by decide
    rw [this] at hc
    cases hc
   ·have := of_decide_eq_true hc
    omega
  ·omega
 ·omega
structure SBz (w : World) (hv : Value) (A1 A2 : List Value) (W : World) : Prop where
 h : W.cell? ⟨w.heap.size, 0, none⟩ = some hv
 a : ∀ j x, A1[j]? = some x → W.cell? ⟨w.heap.size + 1, j, none⟩ = some x
 o : ∀ j x, A2[j]? = some x → W.cell? ⟨w.heap.size + 2, j, none⟩ = some x
 r0 : W.cell? ⟨w.heap.size + 3, 0, none⟩ = some (O ι 0)
 r1 : W.cell? ⟨w.heap.size + 3, 1, none⟩ = some (σ none 0 0)
 fz : ∀ j, W.frozen? ⟨w.heap.size + 3, j, none⟩ = false
 bl : Bel w W
 sz : w.heap.size + 4 ≤ W.heap.size
theorem SBz.keep {w : World} {hv : Value} {A1 A2 : List Value} {W W' : World} (h : SBz w hv A1 A2 W) (x : Bel W W') : SBz w hv A1 A2 W' :=
 ⟨Bel.box x h.h, fun j y hy => Bel.box x (h.a j y hy), fun j y hy => Bel.box x (h.o j y hy), Bel.box x h.r0, Bel.box x h.r1, fun j => (Below.frozen x (p := ⟨w.heap.size + 3, j, none⟩) (zj h.r0)).trans (h.fz j), Bel.tr h.bl x, Nat.le_trans h.sz x.size⟩
theorem SBz.mu {w : World} {hv : Value} {A1 A2 : List Value} {W W' : World} {b : Nat} (h : SBz w hv A1 A2 W) (x : MuB b W W') (hb : w.heap.size + 4 ≤ b) : SBz w hv A1 A2 W' :=
 ⟨x.box (by omega) h.h, fun j y hy => x.box (by omega) (h.a j y hy), fun j y hy => x.box (by omega) (h.o j y hy), x.box (by omega) h.r0, x.box (by omega) h.r1, fun j => (x.frozen (by omega) (zj h.r0)).trans (h.fz j), x.below h.bl (by omega), Nat.le_trans h.sz x.size⟩
theorem SBz.start (w : World) (hv : Value) (A1 A2 : List Value) : SBz w hv A1 A2 ((((w.alloc (χ #[hv] 34)).alloc (.cells A1.toArray 41)).alloc (.cells A2.toArray 41)).alloc (χ #[O ι 0, σ none 0 0] 36)) := by
 have e1 := (((Ext.refl (w.alloc (χ #[hv] 34))).alloc A1.toArray 41).alloc A2.toArray 41).alloc #[O ι 0, σ none 0 0] 36
 have e2 := ((Ext.refl ((w.alloc (χ #[hv] 34)).alloc (.cells A1.toArray 41))).alloc A2.toArray 41).alloc #[O ι 0, σ none 0 0] 36
 have e3 := (Ext.refl (((w.alloc (χ #[hv] 34)).alloc (.cells A1.toArray 41)).alloc (.cells A2.toArray 41))).alloc #[O ι 0, σ none 0 0] 36
 have e0 := ((((Ext.refl w).alloc #[hv] 34).alloc A1.toArray 41).alloc A2.toArray 41).alloc #[O ι 0, σ none 0 0] 36
 exact ⟨e1.box (zd w #[hv] 34 _ rfl 0), fun j x hx => e2.box ((zd _ A1.toArray 41 (w.heap.size + 1) (by simp) j).trans (by simpa using hx)), fun j x hx => e3.box ((zd _ A2.toArray 41 (w.heap.size + 2) (by simp) j).trans (by simpa using hx)), zd _ #[O ι 0, σ none 0 0] 36 (w.heap.size + 3) (by simp) 0, zd _ #[O ι 0, σ none 0 0] 36 (w.heap.size + 3) (by simp) 1, fun j => e0.unfrozen (by omega) j, e0.bl, by simp⟩
theorem zz26 {w W : World} {B : Nat} {a o : Ar} {p1 q1 p2 q2 : Option Addr} {c1 d1 c2 d2 : Nat} (hB : B = W.heap.size) (i1 : Ints w (σ p1 a.xs.length c1) a.xs) (i2 : Ints w (σ q1 a.sv.length d1) a.sv) (i3 : Ints w (σ p2 o.xs.length c2) o.xs) (i4 : Ints w (σ q2 o.sv.length d2) o.sv) (x : Bel w W) :
  ARow (W.alloc (χ #[O ι a.st, σ p1 a.xs.length c1, σ q1 a.sv.length d1, O ι a.off, O ι o.st, σ p2 o.xs.length c2, σ q2 o.sv.length d2, O ι o.off] 41)) B 0 [a, o] := by
 have n1 := fun j => zd W #[O ι a.st, σ p1 a.xs.length c1, σ q1 a.sv.length d1, O ι a.off, O ι o.st, σ p2 o.xs.length c2, σ q2 o.sv.length d2, O ι o.off] 41 B hB j
 have xx : Bel w (W.alloc (χ #[O ι a.st, σ p1 a.xs.length c1, σ q1 a.sv.length d1, O ι a.off, O ι o.st, σ p2 o.xs.length c2, σ q2 o.sv.length d2, O ι o.off] 41)) := Bel.tr x ((Ext.refl W).alloc _ _).bl
 intro j hj
 match j, hj with
 | 0, _ => exact ⟨_, _, n1 0, n1 1, n1 2, n1 3, zk i1 xx, zk i2 xx⟩
 | 1, _ => exact ⟨_, _, n1 4, n1 5, n1 6, n1 7, zk i3 xx, zk i4 xx⟩
 | j + 2, hj => simp at hj; omega
def SarOk (w : World) (ss : List St) (a : Ar) (ax : Int) (o : Ar) (e : Ending) (w' : World) : Prop := ∃ c u ts, e = .returned (γ #[O ι c, u]) ∧ ArgOk ss a ax o c ts ∧ MSp w' w.heap.size u ts ∧ Bel w w'
end
section
open Go.ChangeShapes Go.RowKit FL
theorem zi4 {w : World} {v va vo : Value} {ss : List St} {a o : Ar} (ax : Int) (h : SV w v ss) (hg : SG ss) (hl : SL ss 1048576) (ha : AV w va a) (ho : AV w vo o) :
  Calls Tryz.prog 21 #[γ #[v], va, O ι ax, vo] w fun e w' => SarOk w ss a ax o e w' := by
 obtain ⟨sa, cap, rfl, hx⟩ := h
 have h : SV w (σ sa ss.length cap) ss := ⟨sa, cap, rfl, hx⟩
 obtain ⟨p1, c1, q1, d1, rfl, ia1, ia2, la⟩ := ha
 obtain ⟨p2, c2, q2, d2, rfl, io1, io2, lo⟩ := ho
 have BX0 := SBz.start w (σ sa ss.length cap) [O ι a.st, σ p1 a.xs.length c1, σ q1 a.sv.length d1, O ι a.off] [O ι o.st, σ p2 o.xs.length c2, σ q2 o.sv.length d2, O ι o.off]
 have AR := zz26 (B := w.heap.size + 4) (W := ((((w.alloc (χ #[σ sa ss.length cap] 34)).alloc (χ #[O ι a.st, σ p1 a.xs.length c1, σ q1 a.sv.length d1, O ι a.off] 41)).alloc (χ #[O ι o.st, σ p2 o.xs.length c2, σ q2 o.sv.length d2, O ι o.off] 41)).alloc (χ #[O ι 0, σ none 0 0] 36))) (by simp) ia1 ia2 io1 io2 BX0.bl
 have HH := hide h
 have xr : Ext ((((w.alloc (χ #[σ sa ss.length cap] 34)).alloc (χ #[O ι a.st, σ p1 a.xs.length c1, σ q1 a.sv.length d1, O ι a.off] 41)).alloc (χ #[O ι o.st, σ p2 o.xs.length c2, σ q2 o.sv.length d2, O ι o.off] 41)).alloc (χ #[O ι 0, σ none 0 0] 36)) ((((((w.alloc (χ #[σ sa ss.length cap] 34)).alloc (χ #[O ι a.st, σ p1 a.xs.length c1, σ q1 a.sv.length d1, O ι a.off] 41)).alloc (χ #[O ι o.st, σ p2 o.xs.length c2, σ q2 o.sv.length d2, O ι o.off] 41)).alloc (χ #[O ι 0, σ none 0 0] 36))).alloc (χ #[O ι a.st, σ p1 a.xs.length c1, σ q1 a.sv.length d1, O ι a.off, O ι o.st, σ p2 o.xs.length c2, σ q2 o.sv.length d2, O ι o.off] 41)) := (Ext.refl _).alloc _ _
 have HF := hide (zs13 (o := 0) (cp := 2) (h.keep (Bel.tr BX0.bl xr.bl)) hg hl AR (fun x hx => by simp at hx; rcases hx with rfl | rfl <;> assumption) (by simp))
 have HB0 := hide (BX0.keep xr.bl)
 have b0 := BX0.h
 have a0 := BX0.a 0 _ rfl
 have a1 := BX0.a 1 _ rfl
 have a2 := BX0.a 2 _ rfl
 have a3 := BX0.a 3 _ rfl
 have o0 := BX0.o 0 _ rfl
 have o1 := BX0.o 1 _ rfl
 have o2 := BX0.o 2 _ rfl
 have o3 := BX0.o 3 _ rfl
 have I1 := hide ia1
 have I2 := hide ia2
 have I3 := hide io1
 have I4 := hide io2
 have HG := hide hg
 have HL := hide hl
 clear AR BX0 xr hx h ia1 ia2 io1 io2 hg hl
 go_enter Tryz.func21, Tryz.ntmps21
 go_wp2_with fail
 refine HF.out.mono ?_
 rintro e w1 ⟨rfl, b1⟩
 have HB1 := hide (HB0.out.keep b1)
 clear b1 HF HB0 b0 a0 a1 a2 a3 o0 o1 o2 o3
 have b0 := HB1.out.h
 have a0 := HB1.out.a 0 _ rfl
 have a1 := HB1.out.a 1 _ rfl
 have a2 := HB1.out.a 2 _ rfl
 have a3 := HB1.out.a 3 _ rfl
 have o0 := HB1.out.o 0 _ rfl
 have o1 := HB1.out.o 1 _ rfl
 have o2 := HB1.out.o 2 _ rfl
 have o3 := HB1.out.o 3 _ rfl
 have r0 := HB1.out.r0
 have r1 := HB1.out.r1
 have f0 := HB1.out.fz 0
 have f1 := HB1.out.fz 1
 generalize hfe : firstL ss [a, o] = fc
 by_cases hfc : fc ≠ 0
 ·have hok : Hid (fc = argC ss a ax o) := by show fc = _; unfold argC; rw [hfe, if_pos hfc]
  have hne : (fc == 0) = false := by rw [beq_eq_false_iff_ne]; exact hfc
  go_wp2
  refine bodyPost_ret (v := γ #[O ι fc, σ none 0 0]) (by simp [results, Tryz.results21, go_sem, r0, r1]) rfl ⟨fc, _, [], rfl, ⟨hok.out, .inl ⟨hfc, rfl⟩⟩, .inl ⟨rfl, rfl⟩, by (first | exact (HB1.out.bl.setCell (p := ⟨w.heap.size + 1 + 1 + 1, 0, none⟩) (by show _ ≤ w.heap.size + 1 + 1 + 1; omega) _).setCell (p := ⟨w.heap.size + 1 + 1 + 1, 1, none⟩) (by show _ ≤ w.heap.size + 1 + 1 + 1; omega) _ | exact HB1.out.bl.setCell (p := ⟨w.heap.size + 1 + 1 + 1, 0, none⟩) (by show _ ≤ w.heap.size + 1 + 1 + 1; omega) _)⟩
 have hfc0 : fc = 0 := by omega
 subst hfc0
 obtain ⟨hvh, hga, hgo⟩ := zw11 hfe
 have hc5 : Hid ((ax < 0 ∨ (a.xs.length : Int) ≤ ax) → 5 = argC ss a ax o) := fun q => by unfold argC; rw [hfe, if_neg (by simp), if_pos q]
 have hc9 : Hid (¬ (ax < 0 ∨ (a.xs.length : Int) ≤ ax) → argC ss a ax o = if a.xs = o.xs then lastC o.xs o.sv o.off 6 (o.dt ss) else 6) := fun q => by unfold argC; rw [hfe, if_neg (by simp), if_neg q]
 clear hfe hfc
 by_cases hx0 : ax < 0
 ·have hd0 : decide (ax < 0) = true := decide_eq_true hx0
  have hok := hide (hc5.out (Or.inl hx0))
  clear hc5 hc9
  go_wp2
  refine bodyPost_ret (v := γ #[O ι 5, σ none 0 0]) (by simp [results, Tryz.results21, go_sem, r0, r1]) rfl ⟨5, _, [], rfl, ⟨hok.out, .inl ⟨by omega, rfl⟩⟩, .inl ⟨rfl, rfl⟩, by (first | exact (HB1.out.bl.setCell (p := ⟨w.heap.size + 1 + 1 + 1, 0, none⟩) (by show _ ≤ w.heap.size + 1 + 1 + 1; omega) _).setCell (p := ⟨w.heap.size + 1 + 1 + 1, 1, none⟩) (by show _ ≤ w.heap.size + 1 + 1 + 1; omega) _ | exact HB1.out.bl.setCell (p := ⟨w.heap.size + 1 + 1 + 1, 0, none⟩) (by show _ ≤ w.heap.size + 1 + 1 + 1; omega) _)⟩
 have hd0 : decide (ax < 0) = false := decide_eq_false hx0
 by_cases hx1 : (a.xs.length : Int) ≤ ax
 ·have hd1 : decide ((a.xs.length : Int) ≤ ax) = true := decide_eq_true hx1
  have hok := hide (hc5.out (Or.inr hx1))
  clear hc5 hc9
  go_wp2
  refine bodyPost_ret (v := γ #[O ι 5, σ none 0 0]) (by simp [results, Tryz.results21, go_sem, r0, r1]) rfl ⟨5, _, [], rfl, ⟨hok.out, .inl ⟨by omega, rfl⟩⟩, .inl ⟨rfl, rfl⟩, by (first | exact (HB1.out.bl.setCell (p := ⟨w.heap.size + 1 + 1 + 1, 0, none⟩) (by show _ ≤ w.heap.size + 1 + 1 + 1; omega) _).setCell (p := ⟨w.heap.size + 1 + 1 + 1, 1, none⟩) (by show _ ≤ w.heap.size + 1 + 1 + 1; omega) _ | exact HB1.out.bl.setCell (p := ⟨w.heap.size + 1 + 1 + 1, 0, none⟩) (by show _ ≤ w.heap.size + 1 + 1 + 1; omega) _)⟩
 have hd1 : decide ((a.xs.length : Int) ≤ ax) = false := decide_eq_false hx1
 have HC9 := hide (hc9.out (by omega))
 clear hc5 hc9
 have HSL := hide (fun W (x : Bel w W) => zn10 (zk I1.out x) (zk I3.out x) la.1 lo.1)
 by_cases hsh : a.xs = o.xs
 rotate_left
 ·have hds : decide (a.xs = o.xs) = false := decide_eq_false hsh
  rw [hds] at HSL
  rw [if_neg hsh] at HC9
  clear hsh
  go_wp2_with fail
  refine (HSL.out _ HB1.out.bl).mono ?_
  rintro e ws ⟨rfl, xs1⟩
  have HBs := hide (HB1.out.keep xs1.bl)
  clear xs1 HSL b0 a0 a1 a2 a3 o0 o1 o2 o3 r0 r1 f0 f1
  have b0 := HBs.out.h
  have a0 := HBs.out.a 0 _ rfl
  have a1 := HBs.out.a 1 _ rfl
  have a2 := HBs.out.a 2 _ rfl
  have a3 := HBs.out.a 3 _ rfl
  have o0 := HBs.out.o 0 _ rfl
  have o1 := HBs.out.o 1 _ rfl
  have o2 := HBs.out.o 2 _ rfl
  have o3 := HBs.out.o 3 _ rfl
  have r0 := HBs.out.r0
  have r1 := HBs.out.r1
  have f0 := HBs.out.fz 0
  have f1 := HBs.out.fz 1
  go_wp2
  refine bodyPost_ret (v := γ #[O ι 6, σ none 0 0]) (by simp [results, Tryz.results21, go_sem, r0, r1]) rfl ⟨6, _, [], rfl, ⟨HC9.out.symm, .inl ⟨by omega, rfl⟩⟩, .inl ⟨rfl, rfl⟩, by (first | exact (HBs.out.bl.setCell (p := ⟨w.heap.size + 1 + 1 + 1, 0, none⟩) (by show _ ≤ w.heap.size + 1 + 1 + 1; omega) _).setCell (p := ⟨w.heap.size + 1 + 1 + 1, 1, none⟩) (by show _ ≤ w.heap.size + 1 + 1 + 1; omega) _ | exact HBs.out.bl.setCell (p := ⟨w.heap.size + 1 + 1 + 1, 0, none⟩) (by show _ ≤ w.heap.size + 1 + 1 + 1; omega) _)⟩
 have hds : decide (a.xs = o.xs) = true := decide_eq_true hsh
 rw [hds] at HSL
 rw [if_pos hsh] at HC9
 have HSH := hide hsh
 clear hsh hds
 go_wp2_with fail
 refine (HSL.out _ HB1.out.bl).mono ?_
 rintro e ws ⟨rfl, xs1⟩
 replace HB1 := hide (HB1.out.keep xs1.bl)
 clear xs1 HSL b0 a0 a1 a2 a3 o0 o1 o2 o3 r0 r1 f0 f1
 have b0 := HB1.out.h
 have a0 := HB1.out.a 0 _ rfl
 have a1 := HB1.out.a 1 _ rfl
 have a2 := HB1.out.a 2 _ rfl
 have a3 := HB1.out.a 3 _ rfl
 have o0 := HB1.out.o 0 _ rfl
 have o1 := HB1.out.o 1 _ rfl
 have o2 := HB1.out.o 2 _ rfl
 have o3 := HB1.out.o 3 _ rfl
 have r0 := HB1.out.r0
 have r1 := HB1.out.r1
 have f0 := HB1.out.fz 0
 have f1 := HB1.out.fz 1
 obtain ⟨hdt, hok⟩ := zw19 hvh HG.out hga
 have HOK := hide hok
 have HT := hide (fun W (x : Bel w W) => zz3 (vS := σ p1 a.xs.length c1) (vT := σ q1 a.sv.length d1) (HH.out.keep x) a.st a.off hga.1.1 hga.1.2)
 have HRD := hide (fun W (x : Bel w W) => ze17 (HH.out.keep x) HL.out a.st (zk I1.out x) (zk I2.out x) a.off hga)
 have hdd : Hid (a.dt ss = (ss.getD a.st.toNat s0).1) := rfl
 rw [← hdd.out] at HT
 have hrr : Hid (a.rd ss = readL ss a.st a.xs a.sv a.off) := rfl
 rw [← hrr.out] at HRD
 have hn4 : (a.rd ss).length ≤ 4096 := by rw [hrr.out]; unfold readL; rw [List.length_map]; exact zr4 hga.2.1
 have HGA := hide hga
 have HGO := hide hgo
 obtain ⟨X, hX⟩ : ∃ X, X = a.rd ss := ⟨_, rfl⟩
 obtain ⟨dt, hDT⟩ : ∃ dt, dt = a.dt ss := ⟨_, rfl⟩
 have HX := hide hX
 have HDT := hide hDT
 rw [← hX] at HRD hn4 HOK
 rw [← hDT] at HT HOK hdt
 clear hX hDT hok hga hgo hvh hrr hdd
 go_wp2_with fail
 refine (HT.out _ HB1.out.bl).mono ?_
 rintro e w2 ⟨rfl, x2⟩
 have HB2 := hide (HB1.out.keep x2.bl)
 clear x2 b0 a0 a1 a2 a3 o0 o1 o2 o3 r0 r1 f0 f1 HT
 have b0 := HB2.out.h
 have a0 := HB2.out.a 0 _ rfl
 have a1 := HB2.out.a 1 _ rfl
 have a2 := HB2.out.a 2 _ rfl
 have a3 := HB2.out.a 3 _ rfl
 have o0 := HB2.out.o 0 _ rfl
 have o1 := HB2.out.o 1 _ rfl
 have o2 := HB2.out.o 2 _ rfl
 have o3 := HB2.out.o 3 _ rfl
 have r0 := HB2.out.r0
 have r1 := HB2.out.r1
 have f0 := HB2.out.fz 0
 have f1 := HB2.out.fz 1
 go_wp2_with fail
 refine (HRD.out _ HB2.out.bl).mono ?_
 rintro e w3 ⟨sx, cx, rfl, hox, b3⟩
 have HB3 := hide (HB2.out.keep b3)
 have HOX := hide hox
 clear hox b3 b0 a0 a1 a2 a3 o0 o1 o2 o3 r0 r1 f0 f1 HRD
 have b0 := HB3.out.h
 have a0 := HB3.out.a 0 _ rfl
 have a1 := HB3.out.a 1 _ rfl
 have a2 := HB3.out.a 2 _ rfl
 have a3 := HB3.out.a 3 _ rfl
 have o0 := HB3.out.o 0 _ rfl
 have o1 := HB3.out.o 1 _ rfl
 have o2 := HB3.out.o 2 _ rfl
 have o3 := HB3.out.o 3 _ rfl
 have r0 := HB3.out.r0
 have r1 := HB3.out.r1
 have f0 := HB3.out.fz 0
 have f1 := HB3.out.fz 1
 have hmk := ze7 w3 X.length hn4
 have xm : Ext w3 (w3.alloc (χ (madeCells #[O ι 0, .float .f64 0, .float .f64 0] (X.length * 3)) 66)) := (Ext.refl w3).alloc _ _
 have HS5 : Hid (SoI (w3.alloc (χ (madeCells #[O ι 0, .float .f64 0, .float .f64 0] (X.length * 3)) 66)) w3.heap.size X.length (List.replicate X.length k0) (w3.alloc (χ (madeCells #[O ι 0, .float .f64 0, .float .f64 0] (X.length * 3)) 66))) := ⟨ze12 w3 X.length, by simp, fun o => xm.unfrozen (Nat.le_refl _) o, MuB.refl _ _, by simp⟩
 have HB5 := hide (HB3.out.keep xm.bl)
 have hcB := HB3.out.sz
 have HXR : Hid (X = [] ∨ ∃ g, sx = some ⟨g, 0, none⟩ ∧ g < w3.heap.size ∧ CRow (w3.alloc (χ (madeCells #[O ι 0, .float .f64 0, .float .f64 0] (X.length * 3)) 66)) g 0 X) := by
  rcases HOX.out with z | ⟨g', e1, e2, e3, e4⟩
  ·exact Or.inl z
  ·by_cases z : X = []
   ·exact Or.inl z
   ·exact Or.inr ⟨g', e1, zj (e3 0 (List.length_pos_iff.2 z)).1, e3.keep xm.bl⟩
 clear xm HOX
 go_wp2_with fail
 generalize w3.alloc (χ (madeCells #[O ι 0, .float .f64 0, .float .f64 0] (X.length * 3)) 66) = W5 at HS5 HB5 HXR ⊢
 clear hmk b0 a0 a1 a2 a3 o0 o1 o2 o3 r0 r1 f0 f1
 go_loopw [13] (fun kk wr => ∃ (k : Nat) (C : List C3), kk = O ι k ∧ k ≤ X.length ∧ SoI W5 w3.heap.size X.length C wr ∧ (0 < X.length → Dn X.length a.xs ax.toNat (fun q => ixC (ordQ dt X a.xs ax.toNat q)) IxC k C)) (fun kk _ => X.length - (intOf kk).toNat)
 case atStart =>
  refine ⟨0, _, rfl, by omega, HS5.out, fun _ => ⟨by simp, fun q _ hlt => absurd hlt (by omega)⟩⟩
 case round =>
  obtain ⟨k, C, rfl, hk, hI, hD⟩ := hrel
  have HI := hide hI
  have HD := hide hD
  clear hI hD HS5
  by_cases hlt : k < X.length
  ·have hdk : decide ((k : Int) < (X.length : Int)) = true := decide_eq_true (by omega)
   have HBr := hide (HB5.out.mu HI.out.mu hcB)
   have b0 := HBr.out.h
   have a0 := HBr.out.a 0 _ rfl
   have a1 := HBr.out.a 1 _ rfl
   have a2 := HBr.out.a 2 _ rfl
   have a3 := HBr.out.a 3 _ rfl
   have o0 := HBr.out.o 0 _ rfl
   have o1 := HBr.out.o 1 _ rfl
   have o2 := HBr.out.o 2 _ rfl
   have o3 := HBr.out.o 3 _ rfl
   have r0 := HBr.out.r0
   have r1 := HBr.out.r1
   have f0 := HBr.out.fz 0
   have f1 := HBr.out.fz 1
   have hlen : X.length = (offsL a.xs a.sv a.off).length := by rw [HX.out]; unfold Ar.rd readL; rw [List.length_map]
   have hcnt := zx HGA.out.2.1
   have hz : prod a.xs ≠ 0 := fun e => by
    rw [e] at hcnt
    have : (0 : Int).toNat = 0 := rfl
    omega
   have hp : ∀ n ∈ a.xs, 1 ≤ n := fun n hn => (zg1 HGA.out.2.1.1 hz n hn).1
   have hpg : ∀ i, i < a.xs.length → 0 < a.xs.getD i 0 ∧ a.xs.getD i 0 ≤ 4096 := fun i hi => by
    have := zd2 (fun n hn => zg1 HGA.out.2.1.1 hz n hn) i hi
    omega
   have hx4 := HGA.out.2.1.1.1
   have hpl : X.length = plen a.xs := by
    have q3 := zw (fun n hn => by have := hp n hn; omega : ∀ n ∈ a.xs, 0 ≤ n)
    omega
   obtain ⟨m, hm⟩ : ∃ m : Nat, ax = (m : Int) := ⟨ax.toNat, by omega⟩
   subst hm
   have hml : m < a.xs.length := by omega
   rw [Int.toNat_natCast] at HD ⊢
   obtain ⟨b1, of1, e1, hr1⟩ : ∃ b1 of1, p1 = some ⟨b1, of1, none⟩ ∧ Row w b1 of1 a.xs := by
    obtain ⟨s', c', e', hr⟩ := I1.out
    injection e' with e1 e2 e3
    rcases hr with z | ⟨b', o', e4, hr⟩
    ·rw [z] at hml; simp at hml
    ·exact ⟨b', o', e1.trans e4, hr⟩
   subst e1
   have hb1 := zj (hr1 m hml)
   have HR1 : Hid (∀ W, Bel w W → Row W b1 of1 a.xs ∧ b1 < W.heap.size) := fun W x => ⟨fun j hj => Bel.box x (hr1 j hj), Nat.lt_of_lt_of_le hb1 x.size⟩
   obtain ⟨K, hK⟩ : ∃ K : Nat, K = (a.xs.getD m 0).toNat := ⟨_, rfl⟩
   have hKK : a.xs.getD m 0 = (K : Int) := by have := hpg m hml; omega
   have hKp : 0 < K := by have := hpg m hml; omega
   have hK4 : K ≤ 4096 := by have := hpg m hml; omega
   have HIX := hide (zf7 (cap := c1) (HR1.out wr HBr.out.bl).1 (HR1.out wr HBr.out.bl).2 (k : Int) ⟨by omega, by omega⟩ hpg hx4)
   rw [zw22 hp hx4] at HIX
   have HP := hide hp
   have HPG := hide hpg
   have HPL := hide hpl
   have HKE := hide hK
   have HKK := hide hKK
   have hm0 : (0 : Int) ≤ (m : Int) := Int.natCast_nonneg _
   have hm1 : (m : Int) < (a.xs.length : Int) := by omega
   clear hlen hcnt hp hpg hpl hr1 hK hKK
   go_wp2_with fail
   refine HIX.out.mono ?_
   rintro e w6 ⟨IB, rfl, hib, hib2, hri, x6⟩
   have qi := hri m (by rw [zc2]; exact hml)
   rw [Nat.zero_add] at qi
   have HB6 := hide (HBr.out.keep x6.bl)
   have HI6 := hide (HI.out.bel x6.bl)
   have hiv := zz21 HP.out hml k
   have HSK : Hid ((idxL a.xs k).getD m 0 ≠ 0 → Dn X.length a.xs m (fun q => ixC (ordQ dt X a.xs m q)) IxC (k + 1) C) := fun q => by
    have := HD.out (by omega)
    rw [HPL.out] at this ⊢
    exact this.skip HP.out hml q
   have HIV : Hid ((idxL a.xs k).getD m 0 = 0 → atN a.xs m k 0 = k) := fun q => by
    have := zl20 HP.out hml (show k < plen a.xs by have := HPL.out; omega)
    rw [q] at this
    exact this
   generalize (idxL a.xs k).getD m 0 = iv at qi hiv HSK HIV
   clear hri x6 HIX b0 a0 a1 a2 a3 o0 o1 o2 o3 r0 r1 f0 f1
   by_cases hi0 : iv ≠ 0
   ·have hne : (iv == 0) = false := by rw [beq_eq_false_iff_ne]; exact hi0
    have HDN := hide (HSK.out hi0)
    clear HSK HIV hi0
    go_wp2_with fail
    go_roundw
    ·exact ⟨k + 1, C, by go_num, by omega, HI6.out, fun _ => HDN.out⟩
    ·simp [intOf]; omega
   have hi0 : iv = 0 := by omega
   subst hi0
   have HAT := hide (HIV.out rfl)
   clear HSK HIV
   have b0 := HB6.out.h
   have a0 := HB6.out.a 0 _ rfl
   have a1 := HB6.out.a 1 _ rfl
   have a2 := HB6.out.a 2 _ rfl
   have a3 := HB6.out.a 3 _ rfl
   have o0 := HB6.out.o 0 _ rfl
   have o1 := HB6.out.o 1 _ rfl
   have o2 := HB6.out.o 2 _ rfl
   have o3 := HB6.out.o 3 _ rfl
   have r0 := HB6.out.r0
   have r1 := HB6.out.r1
   have f0 := HB6.out.fz 0
   have f1 := HB6.out.fz 1
   have HLN := hide (zd17 (cap := c1) (HR1.out w6 HB6.out.bl).1 (HR1.out w6 HB6.out.bl).2 hml (k : Int) ⟨by omega, by omega⟩ HPG.out hx4 HKK.out)
   go_wp2_with fail
   refine HLN.out.mono ?_
   rintro e w7 ⟨vA, rfl, hoA, bA⟩
   obtain ⟨gA, cA, rfl, hgA⟩ := zq18 hoA hKp
   have hLA : Row w7 gA 0 ((List.range K).map fun i => ((atN a.xs m k i : Nat) : Int)) := by
    refine (zl8 (n := K) (cap := cA) (base := w6.heap.size) ?_).1
    have e : ((List.range K).map fun i => ((atN a.xs m k i : Nat) : Int)).map (Value.int .i64) = lnV a.xs m (k : Int) K := by
     unfold lnV
     rw [List.map_map]
     refine List.map_congr_left fun i hi => ?_
     have := zm26 HP.out hx4 (ax := m) (i := i) (by rw [← HKE.out]; exact List.mem_range.1 hi) k
     simp only [Function.comp]
     rw [this]
    rw [e]; exact hoA
   have hll : ((List.range K).map fun i => ((atN a.xs m k i : Nat) : Int)).length = K := by simp
   have hla : ∀ i, i < K → ((List.range K).map fun i => ((atN a.xs m k i : Nat) : Int)).getD i 0 = ((atN a.xs m k i : Nat) : Int) := fun i hi => by simp [List.getD_eq_getElem?_getD, hi]
   have hlt2 : ∀ i, i < K → atN a.xs m k i < X.length := fun i hi => by
    have := zw26 HP.out (ax := m) (i := i) (by rw [← HKE.out]; exact hi) k
    have := HPL.out
    omega
   have hgA7 := zj (hLA 0 (by rw [hll]; exact hKp))
   have HB7 := hide (HB6.out.keep bA)
   have HI7 := hide (HI6.out.bel bA)
   obtain ⟨gX, e2, hgX, hrX⟩ := HXR.out.resolve_left (fun e => by rw [e] at hlt; simp at hlt)
   subst e2
   have HRX : Hid (∀ W, MuB w3.heap.size W5 W → CV W (σ (some ⟨gX, 0, none⟩) X.length cx) X) := fun W x => ⟨_, _, rfl, Or.inr ⟨gX, 0, rfl, fun j hj => ⟨x.box (by omega) (hrX j hj).1, x.box (by omega) (hrX j hj).2.1, x.box (by omega) (hrX j hj).2.2⟩⟩⟩
   have HPK := hide (zc17 (cw := cA) (HRX.out w7 HI7.out.mu) hLA hdt (fun j hj => by rw [hll] at hj; rw [hla j hj]; have := hlt2 j hj; omega) HOK.out (by rw [hll]; exact hK4))
   rw [hll] at HPK
   have HLA := hide hLA
   have hw56 := HI6.out.mu.size
   have hcl := HI6.out.lt
   have hgA6 : w6.heap.size ≤ gA := hgA
   clear hoA hLA hrX HLN bA hiv b0 a0 a1 a2 a3 o0 o1 o2 o3 r0 r1 f0 f1
   have b0 := HB7.out.h
   have a0 := HB7.out.a 0 _ rfl
   have a1 := HB7.out.a 1 _ rfl
   have a2 := HB7.out.a 2 _ rfl
   have a3 := HB7.out.a 3 _ rfl
   have o0 := HB7.out.o 0 _ rfl
   have o1 := HB7.out.o 1 _ rfl
   have o2 := HB7.out.o 2 _ rfl
   have o3 := HB7.out.o 3 _ rfl
   have r0 := HB7.out.r0
   have r1 := HB7.out.r1
   have f0 := HB7.out.fz 0
   have f1 := HB7.out.fz 1
   go_wp2_with fail
   refine HPK.out.mono ?_
   rintro e w8 ⟨vL, P, rfl, hpk⟩
   obtain ⟨gL, cL, rfl, hgL, hgL8, hcf⟩ := zc27 hpk hKp
   have HB8 := hide (HB7.out.keep hpk.bl)
   have HI8 := hide (HI7.out.bel hpk.bl)
   have HA8 : Hid (∀ i, i < K → w8.cell? ⟨gA, i, none⟩ = some (O ι (atN a.xs m k i))) := fun i hi => by
    have := Bel.box hpk.bl (HLA.out i (by rw [hll]; exact hi))
    rw [Nat.zero_add, hla i hi] at this
    exact this
   have HSM : Hid (∀ i, i < K → C3.Sm (P.getD i k0) (laneC X a.xs m k i) ∧ OkC dt (P.getD i k0)) := fun i hi => by
    have := hpk.sm i hi
    rw [hla i hi, Int.toNat_natCast] at this
    exact this
   have hw67 := hpk.bl.size
   have HOR := hide (zp13 (cap := cL) hcf hgL8 (fun i hi => (HSM.out i hi).2) hK4)
   have HCF := hide hcf
   clear hpk hcf HPK HLA b0 a0 a1 a2 a3 o0 o1 o2 o3 r0 r1 f0 f1
   go_wp2_with fail
   refine HOR.out.mono ?_
   rintro e w9 ⟨gO, rfl, hgO, hrO, x9⟩
   have HB9 := hide (HB8.out.keep x9.bl)
   have HI9 := hide (HI8.out.bel x9.bl)
   have HOE : Hid (ordL (fun i => P.getD i k0) dt K K = ordL (laneC X a.xs m k) dt K K) := zw6 (fun i j hi hj => zj25 (HSM.out i hi).2 (HSM.out j hj).2 (HOK.out _ (hlt2 i hi)) (HOK.out _ (hlt2 j hj)) (HSM.out i hi).1 (HSM.out j hj).1) K (Nat.le_refl _)
   rw [HOE.out] at hrO
   have HO9 := hide hrO
   have HA9 : Hid (∀ i, i < K → w9.cell? ⟨gA, i, none⟩ = some (O ι (atN a.xs m k i))) := fun i hi => x9.box (HA8.out i hi)
   have HC9' := hide (HCF.out.ext x9)
   have hw89 := x9.bl.size
   have hD0 : Hid (Dl X.length a.xs m (fun q => ixC (ordQ dt X a.xs m q)) IxC k 0 C) := (HD.out (by omega)).lane
   clear hrO x9 HOR HOE HCF HA8
   go_wp2_with fail
   go_loopw [16] (fun ii wq => ∃ (i : Nat) (C' : List C3), ii = O ι i ∧ i ≤ K ∧ SoI W5 w3.heap.size X.length C' wq ∧ MuB w3.heap.size w9 wq ∧ Dl X.length a.xs m (fun q => ixC (ordQ dt X a.xs m q)) IxC k i C') (fun ii _ => K - (intOf ii).toNat)
   case atStart => exact ⟨0, C, rfl, by omega, HI9.out, MuB.refl _ _, hD0.out⟩
   case round =>
    obtain ⟨i, C', rfl, hi, hI', hM', hD'⟩ := hrel
    have HI' := hide hI'
    have HM' := hide hM'
    have HD' := hide hD'
    clear hI' hM' hD'
    by_cases hiK : i < K
    ·have hdi : decide ((i : Int) < (K : Int)) = true := decide_eq_true (by omega)
     have qa := HM'.out.box (by omega) (HA9.out i hiK)
     have hob := zh13 (laneC X a.xs m k) dt hKp K (Nat.le_refl _) i
     have qo := HM'.out.box (by omega) (HO9.out i (by rw [zb6]; exact hiK))
     rw [Nat.zero_add] at qo
     have hst := zs23 HP.out dt X hml (i := i) (by rw [← HKE.out]; exact hiK) k
     rw [← HKE.out] at hst
     have HST := hide hst
     have hatl := hlt2 i hiK
     obtain ⟨ov, hov⟩ : ∃ ov : Nat, (ordL (laneC X a.xs m k) dt K K).getD i 0 = (ov : Int) := ⟨((ordL (laneC X a.xs m k) dt K K).getD i 0).toNat, by omega⟩
     rw [hov] at qo hob HST
     have hovK : ov < K := by omega
     generalize hatv : atN a.xs m k i = atv at qa hatl HST
     have HATV := hide hatv
     obtain ⟨y0, y1, y2⟩ := HI'.out.row atv (by rw [HI'.out.len]; exact hatl)
     rw [Nat.zero_add] at y0 y1 y2
     have fy := HI'.out.fz
     have g0 := fy (atv * 3)
     have g1 := fy (atv * 3 + 1)
     have g2 := fy (atv * 3 + 2)
     have HSET := hide (SoI.set (HI'.out.bel (show Bel wr wr.drew from (Below.refl _ _).drew)) hatl (ixC (ov : Int)))
     have HMU : Hid (MuB w3.heap.size w9 (setC wr.drew w3.heap.size (atv * 3) (ixC (ov : Int)))) := (((HM'.out.bel (show Bel wr wr.drew from (Below.refl _ _).drew)).set _ _).set _ _).set _ _
     have HDS : Hid (Dl X.length a.xs m (fun q => ixC (ordQ dt X a.xs m q)) IxC k (i + 1) (C'.set atv (ixC (ov : Int)))) := by
      have q := HD'.out
      have e := HPL.out
      rw [e] at q ⊢
      rw [← HATV.out]
      refine q.step (by rw [HATV.out]; omega) ⟨?_, (ov : Int), rfl, by unfold I64; omega⟩
      show C3.Sm (ixC (ov : Int)) (ixC (ordQ dt X a.xs m (atN a.xs m k i)))
      rw [HATV.out, HST.out]
      exact C3.Sm.refl _
     unfold ixC at HSET HMU
     have b1' : (0 : Int) ≤ (i : Int) := Int.natCast_nonneg _
     have b2' : (i : Int) < (K : Int) := by omega
     have b3' : (0 : Int) ≤ (atv : Int) := Int.natCast_nonneg _
     have b4' : (atv : Int) < (X.length : Int) := by omega
     have SA : Hid ((fun w' : World => w'.cell? ⟨gA, i, none⟩ = some (O ι atv) ∧ w'.cell? ⟨gO, i, none⟩ = some (O ι ov)) wr.drew) := ⟨qa, qo⟩
     clear hov hob hatv hst HST
     go_wp2_with fail
     refine zs2 (S := (fun w' : World => w'.cell? ⟨gA, i, none⟩ = some (O ι atv) ∧ w'.cell? ⟨gO, i, none⟩ = some (O ι ov))) (late := [11]) (by kernel_rfl) ?_
     refine zl27 0 92 (σ (some ⟨w3.heap.size, 0, none⟩) X.length X.length) rfl (.inl ⟨by kernel_rfl, ?_⟩) SA.out ?_
     ·rintro w' ⟨z0, z1⟩
      go_simp
     simp only [aP, sT, sZ, sS]
     refine zl27 1 93 (σ (some ⟨gA, 0, none⟩) K cA) rfl (.inl ⟨by kernel_rfl, ?_⟩) SA.out ?_
     ·rintro w' ⟨z0, z1⟩
      go_simp
     simp only [aP, sT, sZ, sS]
     refine zl27 2 94 (O ι i) rfl (.inl ⟨by kernel_rfl, ?_⟩) SA.out ?_
     ·rintro w' ⟨z0, z1⟩
      go_simp
     simp only [aP, sT, sZ, sS]
     refine zl27 3 95 (π (some ⟨gA, i, none⟩)) rfl (.inl ⟨by kernel_rfl, ?_⟩) SA.out ?_
     ·rintro w' ⟨z0, z1⟩
      go_simp
     simp only [aP, sT, sZ, sS]
     refine zl27 4 96 (O ι atv) rfl (.inl ⟨by kernel_rfl, ?_⟩) SA.out ?_
     ·rintro w' ⟨z0, z1⟩
      go_simp
     simp only [aP, sT, sZ, sS]
     refine zl27 5 97 (σ (some ⟨gO, 0, none⟩) K K) rfl (.inl ⟨by kernel_rfl, ?_⟩) SA.out ?_
     ·rintro w' ⟨z0, z1⟩
      go_simp
     simp only [aP, sT, sZ, sS]
     refine zl27 6 98 (O ι i) rfl (.inl ⟨by kernel_rfl, ?_⟩) SA.out ?_
     ·rintro w' ⟨z0, z1⟩
      go_simp
     simp only [aP, sT, sZ, sS]
     refine zl27 7 99 (π (some ⟨gO, i, none⟩)) rfl (.inl ⟨by kernel_rfl, ?_⟩) SA.out ?_
     ·rintro w' ⟨z0, z1⟩
      go_simp
     simp only [aP, sT, sZ, sS]
     refine zl27 8 100 (O ι ov) rfl (.inl ⟨by kernel_rfl, ?_⟩) SA.out ?_
     ·rintro w' ⟨z0, z1⟩
      go_simp
     simp only [aP, sT, sZ, sS]
     refine zl27 9 101 (γ #[O ι ov, .float .f64 0, .float .f64 0]) rfl (.inl ⟨by kernel_rfl, ?_⟩) SA.out ?_
     ·rintro w' ⟨z0, z1⟩
      go_simp
     simp only [aP, sT, sZ, sS]
     refine zl27 10 102 (π (some ⟨w3.heap.size, atv * 3, none⟩)) rfl (.inl ⟨by kernel_rfl, ?_⟩) SA.out ?_
     ·rintro w' ⟨z0, z1⟩
      go_simp
     simp only [aP, sT, sZ, sS]
     refine ze (i := 11) (by kernel_rfl) rfl (fun K' hK' => ?_)
     go_simp
     refine hK'.out _ _ (fun h => absurd h (by decide)) ?_
     clear hK' K'
     try simp only [aP, sT, sZ, sS]
     refine zg (by kernel_rfl) ?_ _
     refine ⟨rfl, ?_⟩
     unfold setC at HSET HMU
     go_wp2_with fail
     go_roundw
     ·exact ⟨i + 1, _, by go_num, by omega, HSET.out, HMU.out, HDS.out⟩
     ·simp [intOf]; omega
    ·have hik : i = K := by omega
     subst hik
     have hdi : decide ((i : Int) < (i : Int)) = false := decide_eq_false (by omega)
     have HDN : Hid (Dn X.length a.xs m (fun q => ixC (ordQ dt X a.xs m q)) IxC (k + 1) C') := by
      have q := HD'.out
      have e := HPL.out
      rw [e] at q ⊢
      have e2 := HKE.out
      rw [e2] at q
      exact q.done HP.out hml
     go_wp2_with fail
     go_roundw
     ·exact ⟨k + 1, C', by go_num, by omega, HI'.out, fun _ => HDN.out⟩
     ·simp [intOf]; omega
  ·have hkk : k = X.length := by omega
   subst hkk
   have hdk : decide (((X.length : Nat) : Int) < (X.length : Int)) = false := decide_eq_false (by omega)
   have HBr := hide (HB5.out.mu HI.out.mu hcB)
   have b0 := HBr.out.h
   have a0 := HBr.out.a 0 _ rfl
   have a1 := HBr.out.a 1 _ rfl
   have a2 := HBr.out.a 2 _ rfl
   have a3 := HBr.out.a 3 _ rfl
   have o0 := HBr.out.o 0 _ rfl
   have o1 := HBr.out.o 1 _ rfl
   have o2 := HBr.out.o 2 _ rfl
   have o3 := HBr.out.o 3 _ rfl
   have r0 := HBr.out.r0
   have r1 := HBr.out.r1
   have f0 := HBr.out.fz 0
   have f1 := HBr.out.fz 1
   have hlen : X.length = (offsL a.xs a.sv a.off).length := by rw [HX.out]; unfold Ar.rd readL; rw [List.length_map]
   have hst0 := HGA.out.1
   have hall : ∀ j, j < C.length → C3.Sm (C.getD j k0) (ixC (ordQ dt X a.xs ax.toNat j)) ∧ IxC (C.getD j k0) := fun j hj => by
    have hj2 : 0 < X.length := by rw [HI.out.len] at hj; omega
    have hcnt := zx HGA.out.2.1
    have hz : prod a.xs ≠ 0 := fun e => by
     rw [e] at hcnt
     have : (0 : Int).toNat = 0 := rfl
     omega
    have hp : ∀ n ∈ a.xs, 1 ≤ n := fun n hn => (zg1 HGA.out.2.1.1 hz n hn).1
    have hpl : X.length = plen a.xs := by
     have q3 := zw (fun n hn => by have := hp n hn; omega : ∀ n ∈ a.xs, 0 ≤ n)
     omega
    have q := HD.out hj2
    rw [hpl] at q
    exact q.all hp (by omega) j hj
   have hlo : (offsL a.xs a.sv a.off).length = (offsL o.xs o.sv o.off).length := by rw [zx HGA.out.2.1, zx HGO.out.2.1, HSH.out]
   have hsto := HGO.out.1
   have hXC : CV wr (σ (some ⟨w3.heap.size, 0, none⟩) C.length C.length) C := ⟨_, _, rfl, Or.inr ⟨_, 0, rfl, HI.out.row⟩⟩
   have hSr := HH.out.keep HBr.out.bl
   have hi1 := zk I3.out HBr.out.bl
   have hi2 := zk I4.out HBr.out.bl
   have hsz3 := HBr.out.sz
   by_cases hlz : lastC o.xs o.sv o.off 6 (o.dt ss) = 0
   ·obtain ⟨hw, hcc, ht1, ht2⟩ := zh11 hlz
    have hcv : ∀ j, j < C.length → ∀ W, Calls Tryz.prog 73 #[O ι 6, O ι (o.dt ss), cellV (C.getD j k0)] W fun e W' => ∃ c, e = .returned (cellV c) ∧ (C3.Sm c (cvI (o.dt ss) (ordQ dt X a.xs ax.toNat j)) ∧ G1 c) ∧ Ext W W' := fun j hj W => by
     obtain ⟨q1, k, q2, q3⟩ := hall j hj
     rw [q2] at q1 ⊢
     have e : k = ordQ dt X a.xs ax.toNat j := q1.1
     refine (zz25 q3 ⟨ht1, ht2⟩ W).mono ?_
     rintro e' W' ⟨rfl, y⟩
     exact ⟨_, rfl, ⟨by rw [← e]; exact C3.Sm.refl _, zy22 q3 ⟨ht1, ht2⟩⟩, y⟩
    have HW := hide (zj11 (sx := some ⟨w3.heap.size, 0, none⟩) (cx := C.length) (X := C) (fr := 6) (to := o.dt ss) (Rl := fun j c => C3.Sm c (cvI (o.dt ss) (ordQ dt X a.xs ax.toNat j)) ∧ G1 c) hSr HL.out o.st.toNat o.off (by omega) rfl hcc hi1 hi2 lo.1 lo.2 hw HGO.out.2.2 hXC hcv (by rw [HI.out.len]; omega) (by rw [HI.out.len]; exact hn4))
    rw [HI.out.len, Int.toNat_of_nonneg hsto.1] at HW
    rw [hlz] at HC9
    clear hcv hall hXC hSr hi1 hi2 hlen hlo hw hst0 hsto hlz hcc ht1 ht2
    go_wp2_with fail
    refine HW.out.mono ?_
    rintro e w10 ⟨g, cg, cb, Z, rfl, hZl, hZr, hSp, b10⟩
    have HB10 := hide (HBr.out.keep b10)
    have HSP := hide hSp
    have HZ : Hid (ArgOk ss a ax o 0 (putT ss o.st.toNat (offsL o.xs o.sv o.off) Z (offsL o.xs o.sv o.off).length)) := by
     refine ⟨HC9.out.symm, Or.inr ⟨rfl, HGO.out, Z, hZl, ?_, rfl⟩⟩
     rw [← HDT.out, ← HX.out]
     exact hZr
    clear hZl hZr hSp b10 HW b0 a0 a1 a2 a3 o0 o1 o2 o3 r0 r1 f0 f1
    have b0 := HB10.out.h
    have a0 := HB10.out.a 0 _ rfl
    have a1 := HB10.out.a 1 _ rfl
    have a2 := HB10.out.a 2 _ rfl
    have a3 := HB10.out.a 3 _ rfl
    have o0 := HB10.out.o 0 _ rfl
    have o1 := HB10.out.o 1 _ rfl
    have o2 := HB10.out.o 2 _ rfl
    have o3 := HB10.out.o 3 _ rfl
    have r0 := HB10.out.r0
    have r1 := HB10.out.r1
    have f0 := HB10.out.fz 0
    have f1 := HB10.out.fz 1
    go_wp2
    refine bodyPost_ret (v := γ #[O ι 0, σ (some ⟨g, 0, none⟩) ss.length cg]) (by simp [results, Tryz.results21, go_sem, r0, r1]) rfl ⟨0, _, _, rfl, HZ.out, Or.inr ⟨g, cg, cb, by rw [zo], ?_⟩, by (first | exact (HB10.out.bl.setCell (p := ⟨w.heap.size + 1 + 1 + 1, 0, none⟩) (by show _ ≤ w.heap.size + 1 + 1 + 1; omega) _).setCell (p := ⟨w.heap.size + 1 + 1 + 1, 1, none⟩) (by show _ ≤ w.heap.size + 1 + 1 + 1; omega) _ | exact HB10.out.bl.setCell (p := ⟨w.heap.size + 1 + 1 + 1, 0, none⟩) (by show _ ≤ w.heap.size + 1 + 1 + 1; omega) _)⟩
    refine HSp.lower (lo := wr.heap.size) ?_ (by omega)
    first
     | exact (HSP.out.far (by show w.heap.size + 1 + 1 + 1 < _; omega) _).far (by show w.heap.size + 1 + 1 + 1 < _; omega) _
     | exact HSP.out.far (by show w.heap.size + 1 + 1 + 1 < _; omega) _
   ·have HW := hide (zi11 (vX := σ (some ⟨w3.heap.size, 0, none⟩) X.length X.length) (fr := 6) (to := o.dt ss) hSr o.st.toNat o.off (by omega) rfl hi1 hi2 lo.1 lo.2 hlz)
    rw [Int.toNat_of_nonneg hsto.1] at HW
    generalize lastC o.xs o.sv o.off 6 (o.dt ss) = lc at HW HC9 hlz
    clear hall hXC hSr hi1 hi2 hlen hlo hst0 hsto
    go_wp2_with fail
    refine HW.out.mono ?_
    rintro e w10 ⟨rfl, b10⟩
    have HB10 := hide (HBr.out.keep b10)
    clear b10 HW b0 a0 a1 a2 a3 o0 o1 o2 o3 r0 r1 f0 f1
    have b0 := HB10.out.h
    have a0 := HB10.out.a 0 _ rfl
    have a1 := HB10.out.a 1 _ rfl
    have a2 := HB10.out.a 2 _ rfl
    have a3 := HB10.out.a 3 _ rfl
    have o0 := HB10.out.o 0 _ rfl
    have o1 := HB10.out.o 1 _ rfl
    have o2 := HB10.out.o 2 _ rfl
    have o3 := HB10.out.o 3 _ rfl
    have r0 := HB10.out.r0
    have r1 := HB10.out.r1
    have f0 := HB10.out.fz 0
    have f1 := HB10.out.fz 1
    go_wp2
    refine bodyPost_ret (v := γ #[O ι lc, σ none 0 0]) (by simp [results, Tryz.results21, go_sem, r0, r1]) rfl ⟨lc, _, [], rfl, ⟨HC9.out.symm, .inl ⟨hlz, rfl⟩⟩, .inl ⟨rfl, rfl⟩, by (first | exact (HB10.out.bl.setCell (p := ⟨w.heap.size + 1 + 1 + 1, 0, none⟩) (by show _ ≤ w.heap.size + 1 + 1 + 1; omega) _).setCell (p := ⟨w.heap.size + 1 + 1 + 1, 1, none⟩) (by show _ ≤ w.heap.size + 1 + 1 + 1; omega) _ | exact HB10.out.bl.setCell (p := ⟨w.heap.size + 1 + 1 + 1, 0, none⟩) (by show _ ≤ w.heap.size + 1 + 1 + 1; omega) _)⟩
end
section
open Go.ChangeShapes Go.RowKit FL
def LnOk (dt : Int) (b off n cap : Nat) (f : Nat → C3) (w : World) (e : Ending) (w' : World) : Prop := e = .returned (σ (some ⟨b, off, none⟩) n cap) ∧ ∃ r, Prm 0 n r ∧ Srt (befC dt) 0 n (fun i => tag f (r i)) ∧ CF w' b off n (fun i => f (r i)) ∧ MRg b off n w w'
theorem zg13 (w : World) (dt : Int) : Calls Tryz.prog 57 #[O ι dt] w fun e w' => e = .returned (.func (.func 97) #[] #[π (some ⟨w.heap.size, 0, none⟩)]) ∧ w'.cell? ⟨w.heap.size, 0, none⟩ = some (O ι dt) ∧ Ext w w' := by
 have n1 := zd w #[O ι dt] 2 w.heap.size rfl 0
 simp only [List.getElem?_toArray, List.getElem?_cons_zero] at n1
 have X1 : Hid (Ext w (w.alloc (χ #[O ι dt] 2))) := (Ext.refl w).alloc _ _
 have N1 := hide n1
 clear n1
 go_enter Tryz.func57, Tryz.ntmps57
 go_wp2
 go_ret
 exact ⟨rfl, N1.out, X1.out⟩
end
end Go.Proofs.YtfhcpicddegblaaGreat
