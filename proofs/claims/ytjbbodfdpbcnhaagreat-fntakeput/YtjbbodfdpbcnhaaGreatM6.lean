import Derived.Test.YtjbbodfdpbcnhaaGreatM5
import Derived.Test.YtjbbodfdpbcnhaaGreatM4
import Derived.RegionTactic
import Derived.Test.YtjbbodfdpbcnhaaGreatM3
import Derived.Deep.OwnRows
import Derived.Test.YtjbbodfdpbcnhaaGreatM1
import Derived.Deep.RegionHeld3
set_option linter.unusedSimpArgs false
set_option linter.unusedVariables false
set_option maxRecDepth 100000
set_option maxHeartbeats 8000000
namespace Go.Proofs.YtjbbodfdpbcnhaaGreat
open List renaming setIfInBounds_toArray → sT, set_cons_zero → sZ, set_cons_succ → sS
open Go.Value renaming int → O, slice → σ, pointer → π, agg → γ
open Go.IntKind renaming i64 → ι
open Go.Obj renaming cells → χ
open Go.Act renaming put → aP
section
open Go.ChangeShapes Go.RowKit FL
theorem zy8 {w : World} {v : Value} {ss : List St} (h : SV w v ss) (hl : SL ss 1048576) (a a0 a1 a2 a3 b0 b1 b2 b3 off dt fr : Int) (m : Nat) (u : Value) (hm : m < ss.length) :
  Calls Tryz.prog 31 #[γ #[O ι a, O ι a0, O ι a1, O ι a2, O ι a3, O ι b0, O ι b1, O ι b2, O ι b3, O ι off, O ι m, O ι dt, u], γ #[v], O ι fr] w fun e w' => ∃ g cb sb cp, e = .returned (γ #[σ (some ⟨g, 0, none⟩) ss.length ss.length, σ sb (ss.getD m s0).2.length cp, O ι fr, O ι dt]) ∧ HOwn w' w.heap.size g cb ss ∧ Bel w w' ∧ w'.cell? ⟨g, m * 2 + 1, none⟩ = some (σ sb (ss.getD m s0).2.length cp) := by
 obtain ⟨sa, cap, rfl, hx⟩ := h
 have h : SV w (σ sa ss.length cap) ss := ⟨sa, cap, rfl, hx⟩
 have hl1 := hl.1
 have x0 : Ext w (((w.alloc (χ #[O ι a, O ι a0, O ι a1, O ι a2, O ι a3, O ι b0, O ι b1, O ι b2, O ι b3, O ι off, O ι m, O ι dt, u] 67)).alloc (χ #[σ sa ss.length cap] 25)).alloc (χ #[σ none 0 0, σ none 0 0, O ι 0, O ι 0] 79)) := (((Ext.refl w).alloc _ _).alloc _ _).alloc _ _
 have hs0 : ((((w.alloc (χ #[O ι a, O ι a0, O ι a1, O ι a2, O ι a3, O ι b0, O ι b1, O ι b2, O ι b3, O ι off, O ι m, O ι dt, u] 67)).alloc (χ #[σ sa ss.length cap] 25)).alloc (χ #[σ none 0 0, σ none 0 0, O ι 0, O ι 0] 79))).heap.size = w.heap.size + 3 := by simp
 have xa : Ext (w.alloc (χ #[O ι a, O ι a0, O ι a1, O ι a2, O ι a3, O ι b0, O ι b1, O ι b2, O ι b3, O ι off, O ι m, O ι dt, u] 67)) (((w.alloc (χ #[O ι a, O ι a0, O ι a1, O ι a2, O ι a3, O ι b0, O ι b1, O ι b2, O ι b3, O ι off, O ι m, O ι dt, u] 67)).alloc (χ #[σ sa ss.length cap] 25)).alloc (χ #[σ none 0 0, σ none 0 0, O ι 0, O ι 0] 79)) := ((Ext.refl _).alloc _ _).alloc _ _
 have k10 := xa.box (zg w #[O ι a, O ι a0, O ι a1, O ι a2, O ι a3, O ι b0, O ι b1, O ι b2, O ι b3, O ι off, O ι m, O ι dt, u] 67 w.heap.size rfl 10)
 have k11 := xa.box (zg w #[O ι a, O ι a0, O ι a1, O ι a2, O ι a3, O ι b0, O ι b1, O ι b2, O ι b3, O ι off, O ι m, O ι dt, u] 67 w.heap.size rfl 11)
 have nr := fun j => zg ((w.alloc (χ #[O ι a, O ι a0, O ι a1, O ι a2, O ι a3, O ι b0, O ι b1, O ι b2, O ι b3, O ι off, O ι m, O ι dt, u] 67)).alloc (χ #[σ sa ss.length cap] 25)) #[σ none 0 0, σ none 0 0, O ι 0, O ι 0] 79 (w.heap.size + 2) (by simp) j
 have r0 := nr 0
 have r1 := nr 1
 have r2 := nr 2
 have r3 := nr 3
 simp only [List.getElem?_toArray, List.getElem?_cons_zero, List.getElem?_cons_succ] at r0 r1 r2 r3 k10 k11
 have HCP := hide (zo11 (h.keep x0.bl) hl)
 have X0 := hide x0
 have HS0 := hide hs0
 clear hx h xa nr x0 hs0 hl
 go_enter Tryz.func31, Tryz.ntmps31
 go_wp2_with fail
 generalize (((w.alloc (χ #[O ι a, O ι a0, O ι a1, O ι a2, O ι a3, O ι b0, O ι b1, O ι b2, O ι b3, O ι off, O ι m, O ι dt, u] 67)).alloc (χ #[σ sa ss.length cap] 25)).alloc (χ #[σ none 0 0, σ none 0 0, O ι 0, O ι 0] 79)) = W0 at *
 refine HCP.out.mono ?_
 rintro e w2 ⟨g, cb, rfl, hO, hB⟩
 have hlg := hO.lo_g
 have hgl := hO.g_lt
 rw [HS0.out] at hlg
 have k10 := Bel.box hB k10
 have k11 := Bel.box hB k11
 have r0 := Bel.box hB r0
 have r1 := Bel.box hB r1
 have r2 := Bel.box hB r2
 have r3 := Bel.box hB r3
 obtain ⟨sb, cb', kc, kd⟩ := hO.sl m hm
 have fz := fun (q : Nat) => (Below.frozen hB (p := ⟨w.heap.size + 2, q, none⟩) (zl (Bel.box (Below.refl _ _) r0) |> fun _ => by rw [HS0.out]; show w.heap.size + 2 < _; omega)).trans (X0.out.unfrozen (by omega) q)
 have f0 := fz 0
 have f1 := fz 1
 have f2 := fz 2
 have f3 := fz 3
 have HO := hide hO
 have HB := hide (Bel.tr X0.out.bl hB)
 have hw2 := Below.size hB
 rw [HS0.out] at hw2
 clear HCP hO hB fz kd
 generalize hcs : (ss.getD m s0).2 = cs at kc ⊢
 have Hcs := hide hcs
 clear hcs
 have x3 : Ext w2 (w2.alloc (χ #[σ (some ⟨g, 0, none⟩) ss.length ss.length] 25)) := (Ext.refl _).alloc _ _
 have n3 := zg w2 #[σ (some ⟨g, 0, none⟩) ss.length ss.length] 25 w2.heap.size rfl 0
 have SA : Hid ((fun w' : World => w'.cell? ⟨w2.heap.size, 0, none⟩ = some (σ (some ⟨g, 0, none⟩) ss.length ss.length) ∧ w'.cell? ⟨w.heap.size, 10, none⟩ = some (O ι m) ∧ w'.cell? ⟨w.heap.size, 11, none⟩ = some (O ι dt) ∧ w'.cell? ⟨g, m * 2 + 1, none⟩ = some (σ sb cs.length cb')) (w2.alloc (χ #[σ (some ⟨g, 0, none⟩) ss.length ss.length] 25)).drew) := ⟨n3, x3.box k10, x3.box k11, x3.box kc⟩
 have r0 := x3.box r0
 have r1 := x3.box r1
 have r2 := x3.box r2
 have r3 := x3.box r3
 have f0 := (x3.fz _).trans f0
 have f1 := (x3.fz _).trans f1
 have f2 := (x3.fz _).trans f2
 have f3 := (x3.fz _).trans f3
 have X3 := hide x3
 have kg : w.heap.size + 2 ≠ g := by omega
 have hm0 : (0 : Int) ≤ (m : Int) := Int.natCast_nonneg _
 have hm1 : (m : Int) < (ss.length : Int) := by omega
 clear x3 n3 k10 k11 kc
 go_wp2_with fail
 generalize w2.alloc (χ #[σ (some ⟨g, 0, none⟩) ss.length ss.length] 25) = W3 at *
 refine zv (S := (fun w' : World => w'.cell? ⟨w2.heap.size, 0, none⟩ = some (σ (some ⟨g, 0, none⟩) ss.length ss.length) ∧ w'.cell? ⟨w.heap.size, 10, none⟩ = some (O ι m) ∧ w'.cell? ⟨w.heap.size, 11, none⟩ = some (O ι dt) ∧ w'.cell? ⟨g, m * 2 + 1, none⟩ = some (σ sb cs.length cb'))) (late := [12]) (by kernel_rfl) ?_
 refine zd (i := 0) (v := γ #[σ (some ⟨g, 0, none⟩) ss.length ss.length]) rfl (by kernel_rfl) (by kernel_rfl) (fun _ _ _ h => by cases h.1) _ (by kernel_rfl) (by kernel_rfl) (Or.inl ⟨by rfl, ?_⟩) SA.out ?_
 ·rintro w' ⟨z0, z1, z2, z3⟩
  go_simp
 simp only [aP, sT, sZ, sS]
 refine zd (i := 1) (v := π (some ⟨w2.heap.size, 0, none⟩)) rfl (by kernel_rfl) (by kernel_rfl) (fun _ _ _ h => by cases h.1) _ (by kernel_rfl) (by kernel_rfl) (Or.inl ⟨by rfl, ?_⟩) SA.out ?_
 ·rintro w' ⟨z0, z1, z2, z3⟩
  go_simp
 simp only [aP, sT, sZ, sS]
 refine zd (i := 2) (v := σ (some ⟨g, 0, none⟩) ss.length ss.length) rfl (by kernel_rfl) (by kernel_rfl) (fun _ _ _ h => by cases h.1) _ (by kernel_rfl) (by kernel_rfl) (Or.inl ⟨by rfl, ?_⟩) SA.out ?_
 ·rintro w' ⟨z0, z1, z2, z3⟩
  go_simp
 simp only [aP, sT, sZ, sS]
 refine zd (i := 3) (v := π (some ⟨w.heap.size, 10, none⟩)) rfl (by kernel_rfl) (by kernel_rfl) (fun _ _ _ h => by cases h.1) _ (by kernel_rfl) (by kernel_rfl) (Or.inl ⟨by rfl, ?_⟩) SA.out ?_
 ·rintro w' ⟨z0, z1, z2, z3⟩
  go_simp
 simp only [aP, sT, sZ, sS]
 refine zd (i := 4) (v := O ι m) rfl (by kernel_rfl) (by kernel_rfl) (fun _ _ _ h => by cases h.1) _ (by kernel_rfl) (by kernel_rfl) (Or.inl ⟨by rfl, ?_⟩) SA.out ?_
 ·rintro w' ⟨z0, z1, z2, z3⟩
  go_simp
 simp only [aP, sT, sZ, sS]
 refine zd (i := 5) (v := π (some ⟨g, m * 2, none⟩)) rfl (by kernel_rfl) (by kernel_rfl) (fun _ _ _ h => by cases h.1) _ (by kernel_rfl) (by kernel_rfl) (Or.inl ⟨by rfl, ?_⟩) SA.out ?_
 ·rintro w' ⟨z0, z1, z2, z3⟩
  go_simp
 simp only [aP, sT, sZ, sS]
 refine zd (i := 6) (v := π (some ⟨g, m * 2 + 1, none⟩)) rfl (by kernel_rfl) (by kernel_rfl) (fun _ _ _ h => by cases h.1) _ (by kernel_rfl) (by kernel_rfl) (Or.inl ⟨by rfl, ?_⟩) SA.out ?_
 ·rintro w' ⟨z0, z1, z2, z3⟩
  go_simp
 simp only [aP, sT, sZ, sS]
 refine zd (i := 7) (v := σ sb cs.length cb') rfl (by kernel_rfl) (by kernel_rfl) (fun _ _ _ h => by cases h.1) _ (by kernel_rfl) (by kernel_rfl) (Or.inl ⟨by rfl, ?_⟩) SA.out ?_
 ·rintro w' ⟨z0, z1, z2, z3⟩
  go_simp
 simp only [aP, sT, sZ, sS]
 refine zd (i := 8) (v := O ι fr) rfl (by kernel_rfl) (by kernel_rfl) (fun _ _ _ h => by cases h.1) _ (by kernel_rfl) (by kernel_rfl) (Or.inl ⟨by rfl, ?_⟩) SA.out ?_
 ·rintro w' ⟨z0, z1, z2, z3⟩
  go_simp
 simp only [aP, sT, sZ, sS]
 refine zd (i := 9) (v := π (some ⟨w.heap.size, 11, none⟩)) rfl (by kernel_rfl) (by kernel_rfl) (fun _ _ _ h => by cases h.1) _ (by kernel_rfl) (by kernel_rfl) (Or.inl ⟨by rfl, ?_⟩) SA.out ?_
 ·rintro w' ⟨z0, z1, z2, z3⟩
  go_simp
 simp only [aP, sT, sZ, sS]
 refine zd (i := 10) (v := O ι dt) rfl (by kernel_rfl) (by kernel_rfl) (fun _ _ _ h => by cases h.1) _ (by kernel_rfl) (by kernel_rfl) (Or.inl ⟨by rfl, ?_⟩) SA.out ?_
 ·rintro w' ⟨z0, z1, z2, z3⟩
  go_simp
 simp only [aP, sT, sZ, sS]
 refine zd (i := 11) (v := γ #[σ (some ⟨g, 0, none⟩) ss.length ss.length, σ sb cs.length cb', O ι fr, O ι dt]) rfl (by kernel_rfl) (by kernel_rfl) (fun _ _ _ h => by cases h.1) _ (by kernel_rfl) (by kernel_rfl) (Or.inl ⟨by rfl, ?_⟩) SA.out ?_
 ·rintro w' ⟨z0, z1, z2, z3⟩
  go_simp
 simp only [aP, sT, sZ, sS]
 refine ze (i := 12) (by kernel_rfl) rfl (fun K hK => ?_)
 go_simp
 refine hK.out _ _ (fun h => absurd h (by decide)) ?_
 clear hK K
 try simp only [aP, sT, sZ, sS]
 refine zm (by kernel_rfl) ?_ _
 refine ⟨rfl, ?_⟩
 go_wp2_with fail
 have hb8 : ∀ b, b ≠ w.heap.size + 2 → ((((W3.setCell ⟨w.heap.size + 2, 0, none⟩ (σ (some ⟨g, 0, none⟩) ss.length ss.length)).setCell ⟨w.heap.size + 2, 1, none⟩ (σ sb cs.length cb')).setCell ⟨w.heap.size + 2, 2, none⟩ (O ι fr)).setCell ⟨w.heap.size + 2, 3, none⟩ (O ι dt)).heap[b]? = W3.heap[b]? := fun b hb => (Below.heap_setCell _ _ _ _ hb).trans ((Below.heap_setCell _ _ _ _ hb).trans ((Below.heap_setCell _ _ _ _ hb).trans (Below.heap_setCell _ _ _ _ hb)))
 refine bodyPost_ret (v := γ #[σ (some ⟨g, 0, none⟩) ss.length ss.length, σ sb cs.length cb', O ι fr, O ι dt]) (by simp [results, Tryz.results31, go_sem, r0, r1, r2, r3]) rfl ⟨g, cb, sb, cb', by rw [Hcs.out], ?_, ?_, ?_⟩
 ·refine (HOwn.keep HO.out (fun b hb hlt => ?_) ?_).lower (by rw [HS0.out]; omega)
  ·exact (hb8 b (by rw [HS0.out] at hb; omega)).trans (X3.out.bl.block b hlt)
  ·have := X3.out.bl.size
   simpa [World.setCell] using this
 ·have hp : ∀ q, w.heap.size ≤ (⟨w.heap.size + 1 + 1, q, none⟩ : Addr).block := fun q => by show _ ≤ w.heap.size + 1 + 1; omega
  exact (((((Bel.tr HB.out X3.out.bl).setCell (hp 0) _).setCell (hp 1) _).setCell (hp 2) _).setCell (hp 3) _).drew
 ·rw [Hcs.out]
  exact (World.cell?_of_block (w := W3) (a := ⟨g, m * 2 + 1, none⟩) (hb8 g (Ne.symm kg))).trans SA.out.2.2.2
end
section
open Go.ChangeShapes Go.RowKit Go.Shelf FL
attribute [local go_sem] Oper.semAt_some
theorem zc16 (cs : List C3) (L : List Int) (X : List C3) (p : Int) : putC cs (L ++ [p]) X (L.length + 1) = (putC cs L X L.length).set p.toNat (X.getD L.length k0) := by
 rw [putC, zj8 cs (L' := L) (X' := X) (fun i hi => by simp [List.getD_eq_getElem?_getD, List.getElem?_append_left hi]) (fun _ _ => rfl)]
 simp [List.getD_eq_getElem?_getD]
theorem HOwn.putc {w w1 : World} {lo g m p j : Nat} {x : C3} {cb : Nat → Nat} {ss : List St} {L : List Int} {X : List C3} (h : HOwn w lo g cb (putT ss m L X j)) (hm : m < ss.length) (hp : p < (ss.getD m s0).2.length) (hL : L.length = j) (x1 : Ext w w1) (hx : x = X.getD j k0) :
  HOwn (setC w1 (cb m) (p * 3) x) lo g cb (putT ss m (L ++ [(p : Int)]) X (j + 1)) := by
 have h1 : HOwn w1 lo g cb (putT ss m L X j) := h.keep (fun b _ hb => x1.bl.block b hb) x1.bl.size
 clear h x1
 have hne : (ss.getD m s0).2 ≠ [] := fun e => by rw [e] at hp; simp at hp
 have hmm : (putT ss m L X j).getD m s0 = ((ss.getD m s0).1, putC (ss.getD m s0).2 L X j) := by unfold putT; rw [ze8, if_pos ⟨rfl, hm⟩]
 have hmn : (putT ss m (L ++ [(p : Int)]) X (j + 1)).getD m s0 = ((ss.getD m s0).1, (putC (ss.getD m s0).2 L X j).set p x) := by
  unfold putT
  rw [ze8, if_pos ⟨rfl, hm⟩, ← hL, zc16, hx, hL, Int.toNat_natCast]
 have hnm : ∀ i, i ≠ m → (putT ss m (L ++ [(p : Int)]) X (j + 1)).getD i s0 = (putT ss m L X j).getD i s0 := fun i hi => ((zb1 ss m _ X (j + 1) i).2.2 hi).trans ((zb1 ss m L X j i).2.2 hi).symm
 have hnil : ∀ i, ((putT ss m (L ++ [(p : Int)]) X (j + 1)).getD i s0).2 ≠ [] ↔ ((putT ss m L X j).getD i s0).2 ≠ [] := fun i => by
  rw [ne_eq, ne_eq, zx5, zx5, (zb1 ss m _ X (j + 1) i).2.1, (zb1 ss m L X j i).2.1]
 have hlen : ∀ i, ((putT ss m (L ++ [(p : Int)]) X (j + 1)).getD i s0).2.length = ((putT ss m L X j).getD i s0).2.length := fun i => by rw [(zb1 ss m _ X (j + 1) i).2.1, (zb1 ss m L X j i).2.1]
 have hnem : ((putT ss m L X j).getD m s0).2 ≠ [] := fun e => hne (by rw [zx5] at e ⊢; rw [← (zb1 ss m L X j m).2.1]; exact e)
 have hml : m < (putT ss m L X j).length := by rw [zp]; exact hm
 have hgm := h1.g_cb m hml hnem
 have hcb : ∀ i, i < ss.length → ((putT ss m L X j).getD i s0).2 ≠ [] → i ≠ m → cb i ≠ cb m := fun i hi hi2 him e => by
  rcases Nat.lt_or_gt_of_ne him with q | q
  ·have := h1.inc i m q hml hi2 hnem; omega
  ·have := h1.inc m i q (by rw [zp]; exact hi) hnem hi2; omega
 refine ⟨fun i hi => ?_, fun i hi => ?_, fun i hi hne2 => ?_, fun o => ?_, fun i hi hne2 o => ?_, h1.lo_g, ?_, fun i hi hne2 => ?_, fun i i' hii hi' hn1 hn2 => ?_⟩
 ·rw [zp] at hi
  rw [(zb1 ss m _ X (j + 1) i).1, ← (zb1 ss m L X j i).1]
  exact za1 (by omega) (h1.dt i (by rw [zp]; exact hi))
 ·rw [zp] at hi
  obtain ⟨sa, cap, q1, q2⟩ := h1.sl i (by rw [zp]; exact hi)
  refine ⟨sa, cap, ?_, ?_⟩
  ·rw [hlen]; exact za1 (by omega) q1
  ·rcases q2 with q2 | q2
   ·exact Or.inl (by rw [zx5, hlen]; rw [zx5] at q2; exact q2)
   ·exact Or.inr q2
 ·rw [zp] at hi
  rw [hnil] at hne2
  have hr := h1.row i (by rw [zp]; exact hi) hne2
  by_cases e : i = m
  ·subst e
   rw [hmn]
   rw [hmm] at hr
   have q := hr.set p (by rw [zw4]; exact hp) x
   simp only [Nat.zero_add] at q
   exact q
  ·rw [hnm i e]
   have hc := hcb i hi hne2 e
   exact fun z hz => ⟨za1 hc (hr z hz).1, za1 hc (hr z hz).2.1, za1 hc (hr z hz).2.2⟩
 ·unfold setC; rw [World.frozen?_setCell, World.frozen?_setCell, World.frozen?_setCell]; exact h1.fz o
 ·rw [zp] at hi
  rw [hnil] at hne2
  unfold setC; rw [World.frozen?_setCell, World.frozen?_setCell, World.frozen?_setCell]
  exact h1.fzr i (by rw [zp]; exact hi) hne2 o
 ·have := h1.g_lt; simpa [setC, World.setCell] using this
 ·rw [zp] at hi
  rw [hnil] at hne2
  exact h1.g_cb i (by rw [zp]; exact hi) hne2
 ·rw [zp] at hi'
  rw [hnil] at hn1 hn2
  exact h1.inc i i' hii (by rw [zp]; exact hi') hn1 hn2
theorem zb12 (W : World) (b o : Nat) (x : C3) : KeepsOthers W (setC W b o x) := ((KeepsOthers.setCell _ _ _).trans (KeepsOthers.setCell _ _ _)).trans (KeepsOthers.setCell _ _ _)
theorem zq19 (W : World) {n b : Nat} (hb : b < n) (o : Nat) (x : C3) : KC n W (setC W b o x) := ((KC.setCell W (p := ⟨b, o, none⟩) hb _).trans (KC.setCell _ (p := ⟨b, o + 1, none⟩) hb _)).trans (KC.setCell _ (p := ⟨b, o + 2, none⟩) hb _)
theorem zg8 {lo : Nat} {A W : World} (h : Below lo A W) {b : Nat} (hb : lo ≤ b) (o : Nat) (x : C3) : Below lo A (setC W b o x) := ((h.setCell (p := ⟨b, o, none⟩) hb _).setCell (p := ⟨b, o + 1, none⟩) hb _).setCell (p := ⟨b, o + 2, none⟩) hb _
theorem zr19 (W : World) (b o : Nat) (x : C3) (a : Addr) : (setC W b o x).frozen? a = W.frozen? a := by unfold setC; rw [World.frozen?_setCell, World.frozen?_setCell, World.frozen?_setCell]
structure HwI2 (W4 w2 : World) (g : Nat) (cb : Nat → Nat) (ss : List St) (m : Nat) (X : List C3) (sb : Option Addr) (cl cp : Nat) (fr to : Int) (L : List Int) (W : World) : Prop where
 own : HOwn W W4.heap.size g cb (putT ss m L X L.length)
 d0 : W.cell? ⟨w2.heap.size, 0, none⟩ = some (σ (some ⟨g, 0, none⟩) ss.length ss.length)
 d1 : W.cell? ⟨w2.heap.size, 1, none⟩ = some (σ sb cl cp)
 d2 : W.cell? ⟨w2.heap.size, 2, none⟩ = some (O ι fr)
 d3 : W.cell? ⟨w2.heap.size, 3, none⟩ = some (O ι to)
 ni : W.cell? ⟨w2.heap.size + 1, 0, none⟩ = some (O ι L.length)
 nf : W.frozen? ⟨w2.heap.size + 1, 0, none⟩ = false
theorem HwI2.kept {W4 w2 : World} {g : Nat} {cb : Nat → Nat} {ss : List St} {m : Nat} {X : List C3} {sb : Option Addr} {cl cp : Nat} {fr to : Int} {L : List Int} {A B : World} {row : Option Nat} (h : HwI2 W4 w2 g cb ss m X sb cl cp fr to L A) (h0 : 0 < ss.length) (hg : A.grownBy B row) (hr : ∀ r, row = some r → ∃ o : Obj, A.heap[r]? = some o ∧ o.isCells = false) : HwI2 W4 w2 g cb ss m X sb cl cp fr to L B :=
 ⟨h.own.kept (by rw [zp]; exact h0) hg hr, cell_kept h.d0 hg hr, cell_kept h.d1 hg hr, cell_kept h.d2 hg hr, cell_kept h.d3 hg hr, cell_kept h.ni hg hr, (frozen_kept h.ni hg hr).trans h.nf⟩
theorem zb11 (n : Nat) (hn : 3 ≤ n) (xs sv : List Int) (off : Int) (m : Nat) (u : Value) {w : World} {v : Value} {ss : List St} {sx : Option Addr} {cx : Nat} {X Y : List C3} {fr tq : Int} (h : SV w v ss) (hl : SL ss 1048576) (hm : m < ss.length) (hv : ValidV xs sv off) (hin : ∀ p ∈ offsL xs sv off, p < ((ss.getD m s0).2.length : Int))
  (hX : CV w (σ sx X.length cx) X) (hcv : ∀ j, j < X.length → ∀ W, Calls Tryz.prog 69 #[O ι fr, O ι tq, cellV (X.getD j k0)] W fun e W' => e = .returned (cellV (Y.getD j k0)) ∧ Ext W W') (hXl : (offsL xs sv off).length ≤ X.length) (hX4 : X.length ≤ 4096) :
  CallsIn Fence.wide n Tryz.prog 43 #[γ #[O ι xs.length, O ι (xs.getD 0 0), O ι (xs.getD 1 0), O ι (xs.getD 2 0), O ι (xs.getD 3 0), O ι (sv.getD 0 0), O ι (sv.getD 1 0), O ι (sv.getD 2 0), O ι (sv.getD 3 0), O ι off, O ι m, O ι tq, u], γ #[v], O ι fr, σ sx X.length cx] w fun e w' => ∃ g cb, e = .returned (γ #[σ (some ⟨g, 0, none⟩) ss.length ss.length]) ∧ HOwn w' w.heap.size g cb (putT ss m (offsL xs sv off) Y (offsL xs sv off).length) ∧ Bel w w' := by
 have hdd : ∀ k : Nat, (Fence.wide.depth.isSome = true → 1 ≤ k) := fun k h => by cases h
 obtain ⟨sa, cap, rfl, hsx⟩ := h
 have h : SV w (σ sa ss.length cap) ss := ⟨sa, cap, rfl, hsx⟩
 have hpl := hide (fun n W => zb4 n xs sv off W)
 have hst := hide (fun n Bf W hB => zq13 ((ss.getD m s0).2.length : Int) n Bf xs sv off hv.1.1 hv.2.1 hv.1.2.1 hv.1.2.2 hv.2.2.2.1 hv.2.2.1 (fun x hx => ⟨(zj3 hv x hx).1, hin x hx⟩) W hB)
 clear hv hin hsx
 obtain ⟨cs, hcs⟩ : ∃ cs, cs = (ss.getD m s0).2 := ⟨_, rfl⟩
 rw [← hcs] at hst
 have Hcs := hide hcs
 clear hcs
 unfold vw at hpl hst
 generalize hOL : offsL xs sv off = OL at hst hXl ⊢
 have HOL := hide hOL
 clear hOL
 generalize xs.getD 0 0 = a0 at *
 generalize xs.getD 1 0 = a1 at *
 generalize xs.getD 2 0 = a2 at *
 generalize xs.getD 3 0 = a3 at *
 generalize sv.getD 0 0 = s0' at *
 generalize sv.getD 1 0 = s1 at *
 generalize sv.getD 2 0 = s2 at *
 generalize sv.getD 3 0 = s3 at *
 have x0 : Ext w ((((w.alloc (χ #[O ι xs.length, O ι a0, O ι a1, O ι a2, O ι a3, O ι s0', O ι s1, O ι s2, O ι s3, O ι off, O ι m, O ι tq, u] 67)).alloc (χ #[σ sa ss.length cap] 25)).alloc (χ #[σ sx X.length cx] 39)).alloc (χ #[σ none 0 0] 25)) := ((((Ext.refl w).alloc _ _).alloc _ _).alloc _ _).alloc _ _
 have hs4 : (((((w.alloc (χ #[O ι xs.length, O ι a0, O ι a1, O ι a2, O ι a3, O ι s0', O ι s1, O ι s2, O ι s3, O ι off, O ι m, O ι tq, u] 67)).alloc (χ #[σ sa ss.length cap] 25)).alloc (χ #[σ sx X.length cx] 39)).alloc (χ #[σ none 0 0] 25))).heap.size = w.heap.size + 4 := by simp
 have x1 : Ext (w.alloc (χ #[O ι xs.length, O ι a0, O ι a1, O ι a2, O ι a3, O ι s0', O ι s1, O ι s2, O ι s3, O ι off, O ι m, O ι tq, u] 67)) ((((w.alloc (χ #[O ι xs.length, O ι a0, O ι a1, O ι a2, O ι a3, O ι s0', O ι s1, O ι s2, O ι s3, O ι off, O ι m, O ι tq, u] 67)).alloc (χ #[σ sa ss.length cap] 25)).alloc (χ #[σ sx X.length cx] 39)).alloc (χ #[σ none 0 0] 25)) := (((Ext.refl _).alloc _ _).alloc _ _).alloc _ _
 have x3 : Ext (((w.alloc (χ #[O ι xs.length, O ι a0, O ι a1, O ι a2, O ι a3, O ι s0', O ι s1, O ι s2, O ι s3, O ι off, O ι m, O ι tq, u] 67)).alloc (χ #[σ sa ss.length cap] 25)).alloc (χ #[σ sx X.length cx] 39)) ((((w.alloc (χ #[O ι xs.length, O ι a0, O ι a1, O ι a2, O ι a3, O ι s0', O ι s1, O ι s2, O ι s3, O ι off, O ι m, O ι tq, u] 67)).alloc (χ #[σ sa ss.length cap] 25)).alloc (χ #[σ sx X.length cx] 39)).alloc (χ #[σ none 0 0] 25)) := (Ext.refl _).alloc _ _
 have KA : Hid (∀ j, j < 13 → (((((w.alloc (χ #[O ι xs.length, O ι a0, O ι a1, O ι a2, O ι a3, O ι s0', O ι s1, O ι s2, O ι s3, O ι off, O ι m, O ι tq, u] 67)).alloc (χ #[σ sa ss.length cap] 25)).alloc (χ #[σ sx X.length cx] 39)).alloc (χ #[σ none 0 0] 25))).cell? ⟨w.heap.size, j, none⟩ = #[O ι xs.length, O ι a0, O ι a1, O ι a2, O ι a3, O ι s0', O ι s1, O ι s2, O ι s3, O ι off, O ι m, O ι tq, u][j]?) := fun j hj => by
  have q := zg w #[O ι xs.length, O ι a0, O ι a1, O ι a2, O ι a3, O ι s0', O ι s1, O ι s2, O ι s3, O ι off, O ι m, O ι tq, u] 67 w.heap.size rfl j
  rw [← q]
  exact (x1.bl.cell (p := ⟨w.heap.size, j, none⟩) (by show w.heap.size < _; simp))
 have KX := hide (x3.box (zg ((w.alloc (χ #[O ι xs.length, O ι a0, O ι a1, O ι a2, O ι a3, O ι s0', O ι s1, O ι s2, O ι s3, O ι off, O ι m, O ι tq, u] 67)).alloc (χ #[σ sa ss.length cap] 25)) #[σ sx X.length cx] 39 (w.heap.size + 2) (by simp) 0))
 have KR := hide (zg (((w.alloc (χ #[O ι xs.length, O ι a0, O ι a1, O ι a2, O ι a3, O ι s0', O ι s1, O ι s2, O ι s3, O ι off, O ι m, O ι tq, u] 67)).alloc (χ #[σ sa ss.length cap] 25)).alloc (χ #[σ sx X.length cx] 39)) #[σ none 0 0] 25 (w.heap.size + 3) (by simp) 0)
 have FR : Hid ((((((w.alloc (χ #[O ι xs.length, O ι a0, O ι a1, O ι a2, O ι a3, O ι s0', O ι s1, O ι s2, O ι s3, O ι off, O ι m, O ι tq, u] 67)).alloc (χ #[σ sa ss.length cap] 25)).alloc (χ #[σ sx X.length cx] 39)).alloc (χ #[σ none 0 0] 25))).frozen? ⟨w.heap.size + 3, 0, none⟩ = false) := x0.unfrozen (by omega) 0
 have X0 := hide x0
 have HS4 := hide hs4
 have HDR := hide (zy8 (h.keep x0.bl) hl xs.length a0 a1 a2 a3 s0' s1 s2 s3 off tq fr m u hm)
 have HX := hide hX
 clear x0 hs4 x1 x3 hX h
 refine callsIn_of_wp_marks Tryz.func43 rfl trivial ?_ rfl
 simp only [Tryz.ntmps43, List.size_toArray, List.length_cons, List.length_nil, Nat.reduceAdd, Nat.reduceSub, Array.replicate_succ, Array.replicate_zero, List.push_toArray, List.append_toArray, List.nil_append, List.cons_append]
 gi_wp2
 refine ⟨trivial, hdd _, ?_⟩
 generalize hW4 : ((((w.alloc (χ #[O ι xs.length, O ι a0, O ι a1, O ι a2, O ι a3, O ι s0', O ι s1, O ι s2, O ι s3, O ι off, O ι m, O ι tq, u] 67)).alloc (χ #[σ sa ss.length cap] 25)).alloc (χ #[σ sx X.length cx] 39)).alloc (χ #[σ none 0 0] 25)) = W4 at *
 refine (callsIn_wide.2 HDR.out).mono ?_
 rintro e w2 ⟨g, cb, sb, cp, rfl, hO, hB, hcg⟩
 rw [← Hcs.out] at hcg ⊢
 have ka : ∀ j x, j < 13 → #[O ι xs.length, O ι a0, O ι a1, O ι a2, O ι a3, O ι s0', O ι s1, O ι s2, O ι s3, O ι off, O ι m, O ι tq, u][j]? = some x → w2.cell? ⟨w.heap.size, j, none⟩ = some x := fun j x hj hx => Bel.box hB ((KA.out j hj).trans hx)
 have ka0 := ka 0 _ (by omega) rfl
 have ka1 := ka 1 _ (by omega) rfl
 have ka2 := ka 2 _ (by omega) rfl
 have ka3 := ka 3 _ (by omega) rfl
 have ka4 := ka 4 _ (by omega) rfl
 have ka5 := ka 5 _ (by omega) rfl
 have ka6 := ka 6 _ (by omega) rfl
 have ka7 := ka 7 _ (by omega) rfl
 have ka8 := ka 8 _ (by omega) rfl
 have ka9 := ka 9 _ (by omega) rfl
 have KX2 := hide (Bel.box hB KX.out)
 have KR2 := hide (Bel.box hB KR.out)
 have FR2 := hide ((Below.frozen hB (p := ⟨w.heap.size + 3, 0, none⟩) (by rw [HS4.out]; show w.heap.size + 3 < _; omega)).trans FR.out)
 have HB2 := hide (Bel.tr X0.out.bl hB)
 have HO2 := hide hO
 have HCG := hide hcg
 have hs2 : W4.heap.size ≤ w2.heap.size := hB.size
 rw [HS4.out] at hs2
 have x6 : Ext w2 ((w2.alloc (χ #[σ (some ⟨g, 0, none⟩) ss.length ss.length, σ sb cs.length cp, O ι fr, O ι tq] 79)).alloc (χ #[O ι 0] 3)) := ((Ext.refl w2).alloc _ _).alloc _ _
 have x5 : Ext (w2.alloc (χ #[σ (some ⟨g, 0, none⟩) ss.length ss.length, σ sb cs.length cp, O ι fr, O ι tq] 79)) ((w2.alloc (χ #[σ (some ⟨g, 0, none⟩) ss.length ss.length, σ sb cs.length cp, O ι fr, O ι tq] 79)).alloc (χ #[O ι 0] 3)) := (Ext.refl _).alloc _ _
 have ka0 := x6.box ka0
 have ka1 := x6.box ka1
 have ka2 := x6.box ka2
 have ka3 := x6.box ka3
 have ka4 := x6.box ka4
 have ka5 := x6.box ka5
 have ka6 := x6.box ka6
 have ka7 := x6.box ka7
 have ka8 := x6.box ka8
 have ka9 := x6.box ka9
 have nd := fun j => zg w2 #[σ (some ⟨g, 0, none⟩) ss.length ss.length, σ sb cs.length cp, O ι fr, O ι tq] 79 w2.heap.size rfl j
 have ND0 := hide (x5.box (nd 0))
 have ND1 := hide (x5.box (nd 1))
 have ND2 := hide (x5.box (nd 2))
 have ND3 := hide (x5.box (nd 3))
 have NI := hide (zg (w2.alloc (χ #[σ (some ⟨g, 0, none⟩) ss.length ss.length, σ sb cs.length cp, O ι fr, O ι tq] 79)) #[O ι 0] 3 (w2.heap.size + 1) (by simp) 0)
 have X6 := hide x6
 have hs6 : ((w2.alloc (χ #[σ (some ⟨g, 0, none⟩) ss.length ss.length, σ sb cs.length cp, O ι fr, O ι tq] 79)).alloc (χ #[O ι 0] 3)).heap.size = w2.heap.size + 2 := by simp
 have HBW := hide hB
 clear ka KA hO hB hcg HDR x6 x5 nd KX2 KR2 FR2
 gi_wp2
 generalize ((w2.alloc (χ #[σ (some ⟨g, 0, none⟩) ss.length ss.length, σ sb cs.length cp, O ι fr, O ι tq] 79)).alloc (χ #[O ι 0] 3)) = W6 at *
 refine ⟨trivial, hdd _, ?_⟩
 refine (hpl.out _ _).mono ?_
 rintro e w' ⟨rfl, rfl⟩
 clear hpl
 have h1 : 1 ≤ n := by omega
 gi_wp2
 have hst2 := hide (hst.out (n - 1) (w2.heap.size + 2) W6 (by rw [hs6]))
 have XV : Ext W6 (W6.alloc (χ #[O ι xs.length, O ι a0, O ι a1, O ι a2, O ι a3, O ι s0', O ι s1, O ι s2, O ι s3, O ι off] 65)) := (Ext.refl W6).alloc _ _
 have I0 : Hid (HwI2 W4 w2 g cb ss m Y sb cs.length cp fr tq [] (W6.alloc (χ #[O ι xs.length, O ι a0, O ι a1, O ι a2, O ι a3, O ι s0', O ι s1, O ι s2, O ι s3, O ι off] 65))) := by
  have e : putT ss m [] Y 0 = ss := by
   unfold putT
   show ss.set m ((ss.getD m s0).1, (ss.getD m s0).2) = ss
   rw [List.getD_eq_getElem?_getD, List.getElem?_eq_getElem hm]
   exact List.set_getElem_self hm
  refine ⟨?_, XV.box ND0.out, XV.box ND1.out, XV.box ND2.out, XV.box ND3.out, XV.box NI.out, ((X6.out.trans XV).unfrozen (by omega) 0)⟩
  show HOwn _ _ _ _ (putT ss m [] Y 0)
  rw [e]
  exact HO2.out.keep (fun b _ hb => (X6.out.trans XV).bl.block b hb) (X6.out.trans XV).bl.size
 have B0 : Hid (Below W4.heap.size W4 (W6.alloc (χ #[O ι xs.length, O ι a0, O ι a1, O ι a2, O ι a3, O ι s0', O ι s1, O ι s2, O ι s3, O ι off] 65))) := Bel.tr HBW.out (X6.out.trans XV).bl
 have hsV : (W6.alloc (χ #[O ι xs.length, O ι a0, O ι a1, O ι a2, O ι a3, O ι s0', O ι s1, O ι s2, O ι s3, O ι off] 65)).heap.size = w2.heap.size + 3 := by rw [World.size_alloc, hs6]
 have hsl : Hid (cs = [] ∨ sb = some ⟨cb m, 0, none⟩) := by
  obtain ⟨sa', cap', q1, q2⟩ := HO2.out.sl m hm
  have q3 := HCG.out.symm.trans q1
  injection q3 with q3
  injection q3 with q3 q4 q5
  rw [q3, Hcs.out]; exact q2
 have hcball : Hid (∀ j, j < ss.length → (ss.getD j s0).2 ≠ [] → cb j < w2.heap.size) := fun j hj hne => zl (HO2.out.row j hj hne 0 (List.length_pos_iff.2 hne)).1
 have hgw2 : Hid (g < w2.heap.size) := HO2.out.g_lt
 clear XV hst ka0 ka1 ka2 ka3 ka4 ka5 ka6 ka7 ka8 ka9 ND0 ND1 ND2 ND3 NI
 have h0s : 0 < ss.length := by omega
 have hw4 := HS4.out
 generalize hWV : (W6.alloc (χ #[O ι xs.length, O ι a0, O ι a1, O ι a2, O ι a3, O ι s0', O ι s1, O ι s2, O ι s3, O ι off] 65)) = WV at *
 clear hWV
 refine wpIn_rangeFunc_ownF rfl h1 (gf := 65) (lb := #[π (some ⟨w2.heap.size + 2, 0, none⟩)]) rfl trivial (enters_of Tryz.func65 (by kernel_rfl) rfl)
  hst2.out (fun h k => KC.trans h k) (fun W l o o' h1 h2 h3 h4 => zx16 W l o o' h1 h2 h3 h4) (Below.refl _ _) (fun _ => rfl)
  (fun pre W => HwI2 W4 w2 g cb ss m Y sb cs.length cp fr tq (pnv pre) W ∧ Below W4.heap.size W4 W)
  (fun _ _ _ => False)
  (OwnFrom.and (Own.from (fun (s : List (PlN (cs.length : Int))) A B row hs hg hr => (HwI2.kept (L := pnv s) hs h0s hg hr : HwI2 W4 w2 g cb ss m Y sb cs.length cp fr tq (pnv s) B)) _) (ownFrom_below (Nat.le_refl _) (by omega)))
  (fun _ _ _ _ _ hs _ _ => hs)
  ⟨I0.out, B0.out⟩
  (fun x => { tmps := #[γ #[O ι xs.length, O ι a0, O ι a1, O ι a2, O ι a3, O ι s0', O ι s1, O ι s2, O ι s3, O ι off, O ι m, O ι tq, u], γ #[σ sa ss.length cap], O ι fr, σ sx X.length cx, π (some ⟨w.heap.size, 0, none⟩), π (some ⟨w.heap.size + 1, 0, none⟩), undef, π (some ⟨w.heap.size + 1 + 1, 0, none⟩), π (some ⟨w.heap.size + 1 + 1 + 1, 0, none⟩), π (some ⟨w2.heap.size, 0, none⟩), π (some ⟨w2.heap.size + 1, 0, none⟩), O ι x.1, γ #[O ι xs.length, O ι a0, O ι a1, O ι a2, O ι a3, O ι s0', O ι s1, O ι s2, O ι s3, O ι off, O ι m, O ι tq, u], γ #[σ sa ss.length cap], O ι fr, γ #[σ (some ⟨g, 0, none⟩) ss.length ss.length, σ sb cs.length cp, O ι fr, O ι tq], π (some ⟨w.heap.size, 0, none⟩), γ #[O ι xs.length, O ι a0, O ι a1, O ι a2, O ι a3, O ι s0', O ι s1, O ι s2, O ι s3, O ι off], .func (.func 65) #[] #[π (some ⟨w2.heap.size + 2, 0, none⟩)], O ι x.1, undef, undef, undef, undef, undef, undef, undef, undef, undef, undef, undef], defers := [] }) ?assign ?body ?done ?stop
 case assign =>
  intro l x W K hK
  gi_wp2
  exact hK
 case body =>
  rintro l pre ⟨x, hx⟩ W ⟨hI, hB⟩ hlen
  obtain ⟨p, rfl⟩ : ∃ p : Nat, x = p := ⟨x.toNat, by omega⟩
  have hpl : p < cs.length := by omega
  obtain rfl := hsl.out.resolve_left (fun e => by rw [e] at hpl; simp at hpl)
  have hjX : pre.length < X.length := by omega
  have KXW := Bel.box hB KX.out
  have hBw : Bel w W := Bel.tr X0.out.bl hB
  obtain ⟨sx', cx', ex, hxr⟩ := HX.out
  injection ex with ex1 ex2 ex3
  subst ex1 ex3
  clear ex2
  rcases hxr with h0 | ⟨bx, ox, rfl, hxr⟩
  ·have q0 : X.length = 0 := by rw [h0]; rfl
   omega
  obtain ⟨t0, t1, t2⟩ := hxr pre.length hjX
  have hbx := zl t0
  have hcbm : W4.heap.size ≤ cb m ∧ g < cb m := by
   have q := hI.own.g_cb m (by rw [zp]; exact hm) (fun e => by
    have q1 := (zb1 ss m (pnv pre) Y (pnv pre).length m).2.1
    rw [e, ← Hcs.out] at q1
    simp at q1; omega)
   have q2 := hI.own.lo_g
   omega
  have hcj := hcv pre.length hjX
  generalize X.getD pre.length k0 = xv at t0 t1 t2 hcj
  obtain ⟨xi, xf, xg⟩ := xv
  simp only at t0 t1 t2
  generalize hyv : Y.getD pre.length k0 = yv at hcj
  have Hyv := hide hyv
  clear hyv
  have hni := hI.ni
  rw [zu5] at hni
  have SA : Hid ((fun w' : World => w'.cell? ⟨w2.heap.size, 0, none⟩ = some (σ (some ⟨g, 0, none⟩) ss.length ss.length) ∧ w'.cell? ⟨w2.heap.size, 1, none⟩ = some (σ (some ⟨cb m, 0, none⟩) cs.length cp) ∧ w'.cell? ⟨w2.heap.size, 2, none⟩ = some (O ι fr) ∧ w'.cell? ⟨w2.heap.size, 3, none⟩ = some (O ι tq) ∧ w'.cell? ⟨w.heap.size + 1 + 1, 0, none⟩ = some (σ (some ⟨bx, ox, none⟩) X.length cx) ∧ w'.cell? ⟨w2.heap.size + 1, 0, none⟩ = some (O ι pre.length) ∧ w'.cell? ⟨bx, ox + pre.length * 3, none⟩ = some (O ι xi) ∧ w'.cell? ⟨bx, ox + pre.length * 3 + 1, none⟩ = some (.float .f64 xf) ∧ w'.cell? ⟨bx, ox + pre.length * 3 + 2, none⟩ = some (.float .f64 xg)) W.drew) := ⟨hI.d0, hI.d1, hI.d2, hI.d3, KXW, hni, Bel.box hBw t0, Bel.box hBw t1, Bel.box hBw t2⟩
  have hrow := hI.own.row m (by rw [zp]; exact hm) (fun e => by
    have q1 := (zb1 ss m (pnv pre) Y (pnv pre).length m).2.1
    rw [e, ← Hcs.out] at q1
    simp at q1; omega)
  have hpr : p < ((putT ss m (pnv pre) Y (pnv pre).length).getD m s0).2.length := by rw [(zb1 ss m (pnv pre) Y (pnv pre).length m).2.1, ← Hcs.out]; exact hpl
  obtain ⟨y0, y1, y2⟩ := hrow p hpr
  rw [Nat.zero_add] at y0 y1 y2
  have hfr := hI.own.fzr m (by rw [zp]; exact hm) (fun e => by
    have q1 := (zb1 ss m (pnv pre) Y (pnv pre).length m).2.1
    rw [e, ← Hcs.out] at q1
    simp at q1; omega)
  have HPT := hide (zo13 (w := W.drew) (g := g) (n := ss.length) (n' := ss.length) (cp := cp) (xi := xi) (xf := xf) (xg := xg) (y := yv) hpl hcj y0 y1 y2 hfr)
  have hj0 : (0 : Int) ≤ (pre.length : Int) := Int.natCast_nonneg _
  have hj1 : (pre.length : Int) < (X.length : Int) := by omega
  have hwW := hB.size
  have hnf := hI.nf
  have hd0 := zl hI.ni
  have hcbl := zl y0
  have HI := hide hI
  have HBB := hide hB
  have HBw := hide hBw
  have hgl := hI.own.g_lt
  have Ht0 := hide t0
  have Ht1 := hide t1
  have Ht2 := hide t2
  clear hrow y0 y1 y2 hfr hI hB hBw t0 t1 t2 hxr hpr
  gi_wp2
  refine zh10 (S := (fun w' : World => w'.cell? ⟨w2.heap.size, 0, none⟩ = some (σ (some ⟨g, 0, none⟩) ss.length ss.length) ∧ w'.cell? ⟨w2.heap.size, 1, none⟩ = some (σ (some ⟨cb m, 0, none⟩) cs.length cp) ∧ w'.cell? ⟨w2.heap.size, 2, none⟩ = some (O ι fr) ∧ w'.cell? ⟨w2.heap.size, 3, none⟩ = some (O ι tq) ∧ w'.cell? ⟨w.heap.size + 1 + 1, 0, none⟩ = some (σ (some ⟨bx, ox, none⟩) X.length cx) ∧ w'.cell? ⟨w2.heap.size + 1, 0, none⟩ = some (O ι pre.length) ∧ w'.cell? ⟨bx, ox + pre.length * 3, none⟩ = some (O ι xi) ∧ w'.cell? ⟨bx, ox + pre.length * 3 + 1, none⟩ = some (.float .f64 xf) ∧ w'.cell? ⟨bx, ox + pre.length * 3 + 2, none⟩ = some (.float .f64 xg))) (by kernel_rfl) (by rfl) ?_
  refine wpAnyH_take (i := 0) (v := γ #[σ (some ⟨g, 0, none⟩) ss.length ss.length, σ (some ⟨cb m, 0, none⟩) cs.length cp, O ι fr, O ι tq]) rfl (by kernel_rfl) (by kernel_rfl) (by kernel_rfl) (fun _ _ _ h => by cases h.1) (Or.inl ⟨by rfl, ?_⟩) SA.out ?_
  ·rintro w' ⟨z0, z1, z2, z3, z4, z5, z6, z7, z8⟩
   go_simp
  simp only [aP, sT, sZ, sS]
  refine wpAnyH_take (i := 1) (v := O ι p) rfl (by kernel_rfl) (by kernel_rfl) (by kernel_rfl) (fun _ _ _ h => by cases h.1) (Or.inl ⟨by rfl, ?_⟩) SA.out ?_
  ·rintro w' ⟨z0, z1, z2, z3, z4, z5, z6, z7, z8⟩
   go_simp
  simp only [aP, sT, sZ, sS]
  refine wpAnyH_take (i := 2) (v := σ (some ⟨bx, ox, none⟩) X.length cx) rfl (by kernel_rfl) (by kernel_rfl) (by kernel_rfl) (fun _ _ _ h => by cases h.1) (Or.inl ⟨by rfl, ?_⟩) SA.out ?_
  ·rintro w' ⟨z0, z1, z2, z3, z4, z5, z6, z7, z8⟩
   go_simp
  simp only [aP, sT, sZ, sS]
  refine wpAnyH_take (i := 3) (v := O ι pre.length) rfl (by kernel_rfl) (by kernel_rfl) (by kernel_rfl) (fun _ _ _ h => by cases h.1) (Or.inl ⟨by rfl, ?_⟩) SA.out ?_
  ·rintro w' ⟨z0, z1, z2, z3, z4, z5, z6, z7, z8⟩
   go_simp
  simp only [aP, sT, sZ, sS]
  refine wpAnyH_take (i := 4) (v := π (some ⟨bx, ox + pre.length * 3, none⟩)) rfl (by kernel_rfl) (by kernel_rfl) (by kernel_rfl) (fun _ _ _ h => by cases h.1) (Or.inl ⟨by rfl, ?_⟩) SA.out ?_
  ·rintro w' ⟨z0, z1, z2, z3, z4, z5, z6, z7, z8⟩
   go_simp
  simp only [aP, sT, sZ, sS]
  refine wpAnyH_take (i := 5) (v := γ #[O ι xi, .float .f64 xf, .float .f64 xg]) rfl (by kernel_rfl) (by kernel_rfl) (by kernel_rfl) (fun _ _ _ h => by cases h.1) (Or.inl ⟨by rfl, ?_⟩) SA.out ?_
  ·rintro w' ⟨z0, z1, z2, z3, z4, z5, z6, z7, z8⟩
   go_simp
  simp only [aP, sT, sZ, sS]
  refine wpAnyH_ready (rs := [6]) (by kernel_rfl) (by simp) ?_
  refine AllReadyH.cons rfl (fun K hK => ?_) AllReadyH.nil
  go_simp
  refine HPT.out.mono ?_
  rintro e w3 ⟨rfl, w4, x4, rfl⟩
  have xx := (Ext.refl W).drew.trans x4
  have hcm := hcball.out m hm (by rw [← Hcs.out]; exact fun e => by rw [e] at hpl; simp at hpl)
  have S3 : Hid ((fun w' : World => w'.cell? ⟨w2.heap.size, 0, none⟩ = some (σ (some ⟨g, 0, none⟩) ss.length ss.length) ∧ w'.cell? ⟨w2.heap.size, 1, none⟩ = some (σ (some ⟨cb m, 0, none⟩) cs.length cp) ∧ w'.cell? ⟨w2.heap.size, 2, none⟩ = some (O ι fr) ∧ w'.cell? ⟨w2.heap.size, 3, none⟩ = some (O ι tq) ∧ w'.cell? ⟨w.heap.size + 1 + 1, 0, none⟩ = some (σ (some ⟨bx, ox, none⟩) X.length cx) ∧ w'.cell? ⟨w2.heap.size + 1, 0, none⟩ = some (O ι pre.length) ∧ w'.cell? ⟨bx, ox + pre.length * 3, none⟩ = some (O ι xi) ∧ w'.cell? ⟨bx, ox + pre.length * 3 + 1, none⟩ = some (.float .f64 xf) ∧ w'.cell? ⟨bx, ox + pre.length * 3 + 2, none⟩ = some (.float .f64 xg)) (setC w4 (cb m) (p * 3) yv)) := ⟨za1 (by omega) (xx.box HI.out.d0), za1 (by omega) (xx.box HI.out.d1), za1 (by omega) (xx.box HI.out.d2), za1 (by omega) (xx.box HI.out.d3), za1 (by omega) (xx.box KXW), za1 (by omega) (xx.box hni), za1 (by omega) (xx.box (Bel.box HBw.out Ht0.out)), za1 (by omega) (xx.box (Bel.box HBw.out Ht1.out)), za1 (by omega) (xx.box (Bel.box HBw.out Ht2.out))⟩
  refine hK.out _ _ S3.out (fun _ => ?_)
  clear hK K
  try simp only [aP, sT, sZ, sS]
  refine wpAnyH_done (by kernel_rfl) ?_ _
  refine ⟨rfl, ?_⟩
  have c10 : (setC w4 (cb m) (p * 3) yv).cell? ⟨w2.heap.size + 1, 0, none⟩ = some (O ι pre.length) := S3.out.2.2.2.2.2.1
  have f10 : (setC w4 (cb m) (p * 3) yv).frozen? ⟨w2.heap.size + 1, 0, none⟩ = false := (zr19 _ _ _ _ _).trans ((xx.fz _).trans hnf)
  have HOW := hide (HOwn.far (o := 0) (v := O ι (pre.length + 1)) (HOwn.putc (x := yv) HI.out.own hm (p := p) (by rw [← Hcs.out]; exact hpl) rfl xx (by rw [zu5]; exact Hyv.out.symm)) (b := w2.heap.size + 1) (by have := hgw2.out; omega) (fun j hj hne => by
   rw [zp] at hj
   have := hcball.out j hj (fun e => hne (by rw [zx5, (zb1 ss m _ Y _ j).2.1, e]; simp))
   omega))
  have HEND : Hid (HwI2 W4 w2 g cb ss m Y (some ⟨cb m, 0, none⟩) cs.length cp fr tq (pnv (pre ++ [⟨(p : Int), hx⟩])) ((setC w4 (cb m) (p * 3) yv).setCell ⟨w2.heap.size + 1, 0, none⟩ (O ι (pre.length + 1)))) := by
   have e1 : pnv (pre ++ [⟨(p : Int), hx⟩]) = pnv pre ++ [(p : Int)] := by rw [zw1]; rfl
   have e2 : (pnv pre ++ [(p : Int)]).length = (pnv pre).length + 1 := by simp
   show HwI2 W4 w2 g cb ss m Y (some ⟨cb m, 0, none⟩) cs.length cp fr tq (pnv (pre ++ [⟨(p : Int), hx⟩])) _
   rw [e1]
   refine ⟨?_, ze23 S3.out.1, ze23 S3.out.2.1, ze23 S3.out.2.2.1, ze23 S3.out.2.2.2.1, ?_, ?_⟩
   ·rw [e2]; exact HOW.out
   ·rw [World.cell?_setCell_same _ _ _ c10, e2, zu5]; push_cast; rfl
   ·rw [World.frozen?_setCell]; exact f10
  have HBE : Hid (Below W4.heap.size W4 ((setC w4 (cb m) (p * 3) yv).setCell ⟨w2.heap.size + 1, 0, none⟩ (O ι (pre.length + 1)))) := (zg8 (Bel.tr HBB.out xx.bl) hcbm.1 _ _).setCell (p := ⟨w2.heap.size + 1, 0, none⟩) (by show _ ≤ w2.heap.size + 1; omega) _
  have HKO := hide ((xx.others.trans (zb12 w4 (cb m) (p * 3) yv)).trans (KeepsOthers.setCell _ ⟨w2.heap.size + 1, 0, none⟩ (O ι (pre.length + 1))))
  have HKC := hide (((xx.kc WV.heap.size).trans (zq19 (n := WV.heap.size) (b := cb m) w4 (by omega) (p * 3) yv)).trans (KC.setCell _ (p := ⟨w2.heap.size + 1, 0, none⟩) (by show w2.heap.size + 1 < _; omega) (O ι (pre.length + 1))))
  clear S3
  generalize setC w4 (cb m) (p * 3) yv = W9 at *
  gi_wp2
  exact ⟨HKO.out, HKC.out, HEND.out, HBE.out⟩
 case done =>
  rintro D ys W hD hS ⟨hI, hB⟩ hK
  have c0 := hI.d0
  have kr := Bel.box hB KR.out
  have kf := (Below.frozen hB (p := ⟨w.heap.size + 3, 0, none⟩) (by show w.heap.size + 3 < _; omega)).trans FR.out
  have HI := hide hI
  have hBw := hide (Bel.tr X0.out.bl hB)
  have hDD := hD
  clear hI hB
  gi_wp2
  have hK' := (KeepsOthers.setCell W ⟨w.heap.size + 1 + 1 + 1, 0, none⟩ (σ (some ⟨g, 0, none⟩) ss.length ss.length)).same D _ hK rfl
  refine ⟨by simp, .inl ⟨_, _, rfl, run_takeDeferred hK', ?_⟩⟩
  have hc5 := cell_kept (World.cell?_setCell_same' W ⟨w.heap.size + 1 + 1 + 1, 0, none⟩ (σ (some ⟨g, 0, none⟩) ss.length ss.length) (by rw [show (⟨w.heap.size + 1 + 1 + 1, 0, none⟩ : Addr) = ⟨w.heap.size + 3, 0, none⟩ from rfl, kr]; rfl)) (grownBy_putObj' _ D (.deferred none)) (fun r e => by cases e; exact ⟨_, hK', rfl⟩)
  refine ⟨γ #[σ (some ⟨g, 0, none⟩) ss.length ss.length], ?_, g, cb, rfl, ?_, (hBw.out.setCell (p := ⟨w.heap.size + 1 + 1 + 1, 0, none⟩) (by show _ ≤ w.heap.size + 1 + 1 + 1; omega) _).trans (belowK_b (w := w) (Nat.le_refl _) _ D _ _ (by omega) hK' rfl rfl)⟩
  ·simp [results, Tryz.results43, go_sem, hc5]
  ·have q1 := HI.out.own
   rw [hS] at q1
   have q2 := HOwn.far (o := 0) (b := w.heap.size + 1 + 1 + 1) (v := σ (some ⟨g, 0, none⟩) ss.length ss.length) q1 (by have := q1.lo_g; omega) (fun j hj hne => by
    have a1 := q1.g_cb j hj hne
    have a2 := q1.lo_g
    omega)
   exact ((q2.kept (by rw [zp]; exact h0s) (grownBy_putObj' _ D (.deferred none)) (fun r e => by cases e; exact ⟨_, hK', rfl⟩)).lower (by omega))
 case stop =>
  rintro D c pre W _ _ h _
  exact h.elim
end
section
open Go.RowKit Go.ChangeShapes
theorem zu6 {w w' : World} {v : Value} {xs : List Int} (h : Ints w v xs) (x : Bel w w') : Ints w' v xs := by
 obtain ⟨sa, cap, rfl, h⟩ := h
 refine ⟨sa, cap, rfl, ?_⟩
 rcases h with h | ⟨b, off, h1, h2⟩
 ·exact Or.inl h
 ·exact Or.inr ⟨b, off, h1, fun j hj => Bel.box x (h2 j hj)⟩
structure Ar where
 st : Int
 xs : List Int
 sv : List Int
 off : Int
def a0A : Ar := ⟨0, [], [], 0⟩
def ARow (w : World) (g o : Nat) (al : List Ar) : Prop := ∀ j, j < al.length → ∃ vS vT, w.cell? ⟨g, o + j * 4, none⟩ = some (O ι (al.getD j a0A).st) ∧ w.cell? ⟨g, o + j * 4 + 1, none⟩ = some vS ∧ w.cell? ⟨g, o + j * 4 + 2, none⟩ = some vT ∧ w.cell? ⟨g, o + j * 4 + 3, none⟩ = some (O ι (al.getD j a0A).off) ∧ Ints w vS (al.getD j a0A).xs ∧ Ints w vT (al.getD j a0A).sv
def Ar.Len (a : Ar) : Prop := a.xs.length ≤ 1048576 ∧ a.sv.length ≤ 1048576
abbrev Ar.Good (ss : List St) (a : Ar) : Prop := GoodA ss a.st a.xs a.sv a.off
def firstL (ss : List St) (al : List Ar) : Int := if vHeap ss = true then (if ∀ a ∈ al, a.Good ss then 0 else 2) else 1
theorem zo12 {w : World} {v : Value} {ss : List St} {g o cp : Nat} {al : List Ar} (h : SV w v ss) (hg : SG ss) (hl : SL ss 1048576) (ha : ARow w g o al) (hal : ∀ a ∈ al, a.Len) (hn : al.length ≤ 1000) :
  Calls Tryz.prog 34 #[γ #[v], σ (some ⟨g, o, none⟩) al.length cp] w fun e w' => e = .returned (O ι (firstL ss al)) ∧ Bel w w' := by
 obtain ⟨sa, cap, rfl, hx⟩ := h
 have h : SV w (σ sa ss.length cap) ss := ⟨sa, cap, rfl, hx⟩
 have x0 : Ext w (w.alloc (χ #[σ sa ss.length cap] 25)) := (Ext.refl w).alloc _ _
 have n1 := fun j => zg w #[σ sa ss.length cap] 25 w.heap.size rfl j
 have C0 : Hid ((w.alloc (χ #[σ sa ss.length cap] 25)).cell? ⟨w.heap.size, 0, none⟩ = some (σ sa ss.length cap)) := n1 0
 have c0 := C0.out
 have X0 := hide x0
 have HH := hide (h.keep x0.bl)
 have hvh := hide (zw15 HH.out hg hl)
 have HA := hide ha
 have H0 := hide h
 clear hx h x0 n1 ha
 cases hV : vHeap ss with
 | false =>
  have hf : Hid (firstL ss al = 1) := by show _ = _; unfold firstL; rw [if_neg (by rw [hV]; simp)]
  rw [hV] at hvh
  go_enter Tryz.func34, Tryz.ntmps34
  go_wp2_with (go_at_call 18; refine hvh.out.mono ?_; rintro e w1 ⟨rfl, x1⟩)
  go_ret
  exact ⟨by rw [hf.out]; rfl, (X0.out.trans x1).bl⟩
 | true =>
  have hf : Hid (firstL ss al = if ∀ a ∈ al, a.Good ss then 0 else 2) := by show _ = _; unfold firstL; rw [if_pos hV]
  rw [hV] at hvh
  go_enter Tryz.func34, Tryz.ntmps34
  go_wp2_with fail
  refine hvh.out.mono ?_
  rintro e w1 ⟨rfl, x1⟩
  have X1 := hide (X0.out.trans x1).bl
  have C1 := hide (x1.box c0)
  clear c0 x1 hvh
  go_wp2_with fail
  go_loopw [5] (fun i wr => ∃ k : Nat, i = O ι k ∧ k ≤ al.length ∧ (∀ j, j < k → (al.getD j a0A).Good ss) ∧ Bel w wr ∧ wr.cell? ⟨w.heap.size, 0, none⟩ = some (σ sa ss.length cap)) (fun i _ => al.length - (intOf i).toNat)
  case atStart => exact ⟨0, rfl, by omega, fun j hj => by omega, X1.out, C1.out⟩
  case round =>
   obtain ⟨k, rfl, hk, hgd, hB, c0⟩ := hrel
   by_cases hkn : k < al.length
   ·obtain ⟨vS, vT, q0, q1, q2, q3, i1, i2⟩ := HA.out k hkn
    have q0 := Bel.box hB q0
    have q1 := Bel.box hB q1
    have q2 := Bel.box hB q2
    have q3 := Bel.box hB q3
    have i1 := zu6 i1 hB.drew
    have i2 := zu6 i2 hB.drew
    have hlen := hal _ (show al.getD k a0A ∈ al by rw [List.getD_eq_getElem?_getD, List.getElem?_eq_getElem hkn]; exact List.getElem_mem _)
    have HGD := hide (zb6 (H0.out.keep hB.drew) hl (al.getD k a0A).st i1 i2 (al.getD k a0A).off hlen.1 hlen.2)
    have HBB := hide hB
    have hno : Hid (¬ (al.getD k a0A).Good ss → firstL ss al = 2) := fun q => by
     rw [hf.out, if_neg (fun z => q (z _ (by rw [List.getD_eq_getElem?_getD, List.getElem?_eq_getElem hkn]; exact List.getElem_mem _)))]
    have hnx : Hid ((al.getD k a0A).Good ss → ∀ j, j < k + 1 → (al.getD j a0A).Good ss) := fun q j hj => by
     by_cases e : j = k
     ·rw [e]; exact q
     ·exact hgd j (by omega)
    have k0' : (0 : Int) ≤ (k : Int) := Int.natCast_nonneg _
    have k1 : (k : Int) < (al.length : Int) := by omega
    change Hid (Calls _ _ _ _ fun e w' => e = .returned (.bool (decide ((al.getD k a0A).Good ss))) ∧ Bel wr.drew w') at HGD
    generalize al.getD k a0A = a at q0 q1 q2 q3 HGD hno hnx
    obtain ⟨st, xs, sv, off⟩ := a
    simp only at q0 q1 q2 q3 HGD
    clear hgd hB i1 i2 hlen
    by_cases hq : Ar.Good ss ⟨st, xs, sv, off⟩
    ·rw [decide_eq_true hq] at HGD
     go_wp2_with fail
     go_region_with (go_at_call 19; refine HGD.out.mono ?_; rintro e w2 ⟨rfl, hB2⟩)
     all_goals
      have HB3 : Hid (Bel w w2) := Below.trans HBB.out.drew (hB2.mono (HBB.out.drew).size)
      have c2 : w2.cell? ⟨w.heap.size, 0, none⟩ = some (σ sa ss.length cap) := Bel.box hB2 c0
      clear hB2
      go_wp2_with fail
      go_roundw
      ·exact ⟨k + 1, by go_num, by omega, hnx.out hq, HB3.out, c2⟩
      ·simp [intOf]; omega
    ·rw [decide_eq_false hq] at HGD
     go_wp2_with fail
     go_region_with (go_at_call 19; refine HGD.out.mono ?_; rintro e w2 ⟨rfl, hB2⟩)
     all_goals
      have HB3 : Hid (Bel w w2) := Below.trans HBB.out.drew (hB2.mono (HBB.out.drew).size)
      clear hB2
      go_wp2
      go_ret
      exact ⟨by rw [hno.out hq]; rfl, HB3.out⟩
   ·have hkk : k = al.length := by omega
    subst hkk
    have hd : Hid (firstL ss al = 0) := by
     show _ = _
     rw [hf.out, if_pos (fun a ha => by
      obtain ⟨j, hj, e⟩ := List.mem_iff_getElem.1 ha
      have := hgd j hj
      rw [List.getD_eq_getElem?_getD, List.getElem?_eq_getElem hj] at this
      rw [← e]; exact this)]
    go_wp2
    go_ret
    exact ⟨by rw [hd.out]; rfl, hB⟩
end
section
open Go.ChangeShapes Go.RowKit FL
def Ar.open (U : Nat → Value) (ss : List St) (a : Ar) : List Value := openC a.xs a.sv a.off a.st (ss.getD a.st.toNat s0).1 (U a.st.toNat)
theorem Ar.open_len (U : Nat → Value) (ss : List St) (a : Ar) : (a.open U ss).length = 13 := rfl
def openF (U : Nat → Value) (ss : List St) : List Ar → List Value
 | [] => []
 | a :: al => a.open U ss ++ openF U ss al
theorem zj16 (U : Nat → Value) (ss : List St) (al bl : List Ar) : openF U ss (al ++ bl) = openF U ss al ++ openF U ss bl := by
 induction al with
 | nil => rfl
 | cons a al ih => rw [List.cons_append, openF, openF, ih, List.append_assoc]
theorem zi16 (U : Nat → Value) (ss : List St) (al : List Ar) : ∀ j i, j < al.length → i < 13 → (openF U ss al)[j * 13 + i]? = ((al.getD j a0A).open U ss)[i]? := by
 induction al with
 | nil => intro j i hj; simp at hj
 | cons a al ih =>
  intro j i hj hi
  match j with
  | 0 => rw [openF, List.getElem?_append_left (by rw [Ar.open_len]; omega), Nat.zero_mul, Nat.zero_add]; rfl
  | j + 1 =>
   rw [openF, List.getElem?_append_right (by rw [Ar.open_len]; omega), Ar.open_len, List.getD_cons_succ, ← ih j i (by simpa using hj) hi]
   congr 1; omega
theorem zn15 (U : Nat → Value) (ss : List St) (al : List Ar) {k : Nat} (hk : k < al.length) : openF U ss (al.take (k + 1)) = openF U ss (al.take k) ++ (al.getD k a0A).open U ss := by
 rw [List.take_add_one, List.getElem?_eq_getElem hk, zj16]
 congr 1
 rw [List.getD_eq_getElem?_getD, List.getElem?_eq_getElem hk]
 show openF U ss [al[k]] = _
 rw [openF, openF, List.append_nil]; rfl
theorem SV.stores {w : World} {v : Value} {ss : List St} (h : SV w v ss) : ∃ U : Nat → Value, (∀ j, j < ss.length → CV w (U j) (ss.getD j s0).2) ∧
  (ss = [] ∨ ∃ b off cap, v = σ (some ⟨b, off, none⟩) ss.length cap ∧ ∀ j, j < ss.length → w.cell? ⟨b, off + j * 2, none⟩ = some (O ι (ss.getD j s0).1) ∧ w.cell? ⟨b, off + j * 2 + 1, none⟩ = some (U j)) := by
 obtain ⟨sa, cap, rfl, h⟩ := h
 rcases h with rfl | ⟨b, off, rfl, h⟩
 ·exact ⟨fun _ => σ none 0 0, fun j hj => by simp at hj, Or.inl rfl⟩
 ·refine ⟨fun j => if hj : j < ss.length then Classical.choose (h j hj).2 else σ none 0 0, fun j hj => ?_, Or.inr ⟨b, off, cap, rfl, fun j hj => ?_⟩⟩
  ·simp only [dif_pos hj]; exact (Classical.choose_spec (h j hj).2).2
  ·simp only [dif_pos hj]; exact ⟨(h j hj).1, (Classical.choose_spec (h j hj).2).1⟩
def OpenNOk (w : World) (ss : List St) (al : List Ar) (e : Ending) (w' : World) : Prop :=
 ∃ v, e = .returned (.tuple #[v, O ι (firstL ss al)]) ∧ Bel w w' ∧ (firstL ss al ≠ 0 ∨
  ∃ g cap U, v = σ (some ⟨g, 0, none⟩) al.length cap ∧ w.heap.size ≤ g ∧ (∀ a ∈ al, a.Good ss) ∧ (∀ j, j < ss.length → CV w (U j) (ss.getD j s0).2) ∧ ∀ j i x, j < al.length → ((al.getD j a0A).open U ss)[i]? = some x → w'.cell? ⟨g, j * 13 + i, none⟩ = some x)
theorem zp10 {w : World} {v : Value} {ss : List St} {ga oa cp : Nat} {al : List Ar} (h : SV w v ss) (hg : SG ss) (hl : SL ss 1048576) (ha : ARow w ga oa al) (hal : ∀ a ∈ al, a.Len) (hn0 : 0 < al.length) (hn : al.length ≤ 1000) :
  Calls Tryz.prog 22 #[γ #[v], σ (some ⟨ga, oa, none⟩) al.length cp] w fun e w' => OpenNOk w ss al e w' := by
 obtain ⟨i77, hi77, hy0, hy1, hy2⟩ := info_parts zc19
 obtain ⟨U, hU, hUr⟩ := h.stores
 obtain ⟨sa, cap, rfl, hx⟩ := h
 have h : SV w (σ sa ss.length cap) ss := ⟨sa, cap, rfl, hx⟩
 have x0 : Ext w (w.alloc (χ #[σ sa ss.length cap] 25)) := (Ext.refl w).alloc _ _
 have n1 := fun j => zg w #[σ sa ss.length cap] 25 w.heap.size rfl j
 have C0 : Hid ((w.alloc (χ #[σ sa ss.length cap] 25)).cell? ⟨w.heap.size, 0, none⟩ = some (σ sa ss.length cap)) := n1 0
 have X0 := hide x0
 have HH := hide (h.keep x0.bl)
 have hvh := hide (zz16 HH.out hg hl)
 have hl1 := hl.1
 have HUr := hide hUr
 have HU := hide hU
 have HA := hide ha
 clear hx h x0 n1 hU hUr ha
 generalize hW0 : (w.alloc (χ #[σ sa ss.length cap] 25)) = W0 at C0 X0 HH hvh
 have HW0 := hide hW0
 clear hW0
 cases hV : vHeap ss with
 | false =>
  have ho : Hid (firstL ss al = 1) := by show _ = _; unfold firstL; rw [if_neg (by rw [hV]; simp)]
  rw [hV] at hvh
  go_enter Tryz.func22, Tryz.ntmps22
  go_wp2_with (go_at_call 59; rw [HW0.out]; refine hvh.out.mono ?_; rintro e w1 ⟨rfl, x1⟩)
  refine bodyPost_ret (results_tmp2 rfl _ _ _) rfl ?_
  unfold OpenNOk
  rw [ho.out]
  exact ⟨_, rfl, (X0.out.trans x1).bl, Or.inl (by omega)⟩
 | true =>
  have ho : Hid (firstL ss al = if ∀ a ∈ al, a.Good ss then 0 else 2) := by show _ = _; unfold firstL; rw [if_pos hV]
  rw [hV] at hvh
  go_enter Tryz.func22, Tryz.ntmps22
  go_wp2_with fail
  rw [HW0.out]
  refine hvh.out.mono ?_
  rintro e w1 ⟨rfl, x1⟩
  have hmk := run_make (P := Tryz.prog) w1 57 67 i77 (γ #[O ι 0, O ι 0, O ι 0, O ι 0, O ι 0, O ι 0, O ι 0, O ι 0, O ι 0, O ι 0, O ι 0, O ι 0, σ none 0 0]) Tryz.underlying57 hi77 hy0 .i64 .i64 0 al.length (by omega) (by omega) (by rw [hy2]; omega) (by omega)
  simp only [Int.toNat_natCast] at hmk
  rw [hy1] at hmk
  have S0 := World.ownsRow_made (base := w1.heap.size) (e := 67) (size := 13) w1 (madeCells #[O ι 0, O ι 0, O ι 0, O ι 0, O ι 0, O ι 0, O ι 0, O ι 0, O ι 0, O ι 0, O ι 0, O ι 0, σ none 0 0] (al.length * 13)) al.length (Nat.le_refl _) (by unfold maxLen; omega) (by simp [madeCells])
  have xm : Ext w1 (w1.alloc (χ (madeCells #[O ι 0, O ι 0, O ι 0, O ι 0, O ι 0, O ι 0, O ι 0, O ι 0, O ι 0, O ι 0, O ι 0, O ι 0, σ none 0 0] (al.length * 13)) 67)) := (Ext.refl w1).alloc _ _
  have X1 := hide (X0.out.trans x1)
  have CM := hide (x1.box C0.out)
  have HOwn := hide S0
  have XM := hide xm.bl
  clear x1 xm S0 C0 HH X0 hvh HW0
  go_wp2_with fail
  generalize hWm : w1.alloc (χ (madeCells #[O ι 0, O ι 0, O ι 0, O ι 0, O ι 0, O ι 0, O ι 0, O ι 0, O ι 0, O ι 0, O ι 0, O ι 0, σ none 0 0] (al.length * 13)) 67) = Wm at HOwn XM ⊢
  clear hWm hmk
  generalize hBB : w1.heap.size = BB at HOwn ⊢
  go_loopw [6, 20] (fun o i wr => ∃ k : Nat, i = O ι k ∧ k ≤ al.length ∧ (∀ j, j < k → (al.getD j a0A).Good ss) ∧ Bel w1 wr ∧ wr.ownsRow BB 67 13 o k (openF U ss (al.take k))) (fun o i _ => al.length - (intOf i).toNat)
  case atStart => exact ⟨0, rfl, by omega, fun j hj => by omega, XM.out, by rw [List.take_zero]; exact HOwn.out⟩
  case round =>
   obtain ⟨k, rfl, hk, hgd, hB, hown⟩ := hrel
   have HO := hide hown
   have HB := hide hB
   have HGd := hide hgd
   clear hown hgd
   by_cases hkn : k < al.length
   ·obtain ⟨vS, vT, q0, q1, q2, q3, i1, i2⟩ := HA.out k hkn
    have hBw : Bel w wr := Bel.tr X1.out.bl hB
    have q0 := Bel.box hBw q0
    have q1 := Bel.box hBw q1
    have q2 := Bel.box hBw q2
    have q3 := Bel.box hBw q3
    have i1 := zu6 i1 hBw
    have i2 := zu6 i2 hBw
    have hlen := hal _ (show al.getD k a0A ∈ al by rw [List.getD_eq_getElem?_getD, List.getElem?_eq_getElem hkn]; exact List.getElem_mem _)
    have c0 := Bel.box hB CM.out
    have HBW := hide hBw
    have hno : Hid (¬ (al.getD k a0A).Good ss → firstL ss al = 2) := fun q => by
     rw [ho.out, if_neg (fun z => q (z _ (by rw [List.getD_eq_getElem?_getD, List.getElem?_eq_getElem hkn]; exact List.getElem_mem _)))]
    have hnx : Hid ((al.getD k a0A).Good ss → ∀ j, j < k + 1 → (al.getD j a0A).Good ss) := fun q j hj => by
     by_cases e : j = k
     ·rw [e]; exact q
     ·exact HGd.out j (by omega)
    have HTK := hide (zn15 U ss al hkn)
    have kk0 : (0 : Int) ≤ (k : Int) := Int.natCast_nonneg _
    have kk1 : (k : Int) < (al.length : Int) := by omega
    generalize al.getD k a0A = a at q0 q1 q2 q3 i1 i2 hlen hno hnx HTK
    obtain ⟨st, xs, sv, off⟩ := a
    simp only at q0 q1 q2 q3 i1 i2
    have lx : xs.length ≤ 1048576 := hlen.1
    have ls : sv.length ≤ 1048576 := hlen.2
    have HI1 := hide i1
    have HI2 := hide i2
    obtain ⟨s1, d1, rfl, _⟩ := i1
    obtain ⟨s2, d2, rfl, _⟩ := i2
    clear hB hBw hlen HGd
    have xa : Ext wr (wr.alloc (χ #[O ι st, σ s1 xs.length d1, σ s2 sv.length d2, O ι off] 30)) := (Ext.refl wr).alloc _ _
    have c0a := xa.box c0
    by_cases h1 : st < 0
    ·have hno := hide (hno.out (fun q => by have := q.1.1; simp at this; omega))
     have hd : decide (st < 0) = true := decide_eq_true h1
     go_wp2
     refine bodyPost_ret (results_tmp2 rfl _ _ _) rfl ?_
     unfold OpenNOk
     rw [hno.out]
     exact ⟨_, rfl, Bel.tr HBW.out xa.bl, Or.inl (by omega)⟩
    have hd1 : decide (st < 0) = false := decide_eq_false h1
    by_cases h2 : (ss.length : Int) ≤ st
    ·have hno := hide (hno.out (fun q => by have := q.1.2; simp at this; omega))
     have hd : decide ((ss.length : Int) ≤ st) = true := decide_eq_true h2
     go_wp2
     refine bodyPost_ret (results_tmp2 rfl _ _ _) rfl ?_
     unfold OpenNOk
     rw [hno.out]
     exact ⟨_, rfl, Bel.tr HBW.out xa.bl, Or.inl (by omega)⟩
    have hd2 : decide ((ss.length : Int) ≤ st) = false := decide_eq_false h2
    obtain ⟨m, rfl⟩ : ∃ m : Nat, st = (m : Int) := ⟨st.toNat, by omega⟩
    have hm : m < ss.length := by omega
    have hm0 : (0 : Int) ≤ (m : Int) := Int.natCast_nonneg _
    have hm1 : (m : Int) < (ss.length : Int) := by omega
    rcases HUr.out with h0 | ⟨bs, os, cap', eb, hrow⟩
    ·rw [h0] at hm; simp at hm
    injection eb with eb1 _ eb2
    subst eb1 eb2
    obtain ⟨t0, t1⟩ := hrow m hm
    have q4 := Bel.box HBW.out t0
    have q5 := Bel.box HBW.out t1
    have q4a := xa.box q4
    have q5a := xa.box q5
    have hcl := hl.at m hm
    have CVm := HU.out m hm
    obtain ⟨su, cu, hUm, _⟩ := CVm
    rw [hUm] at q5 q5a
    have hgood : Hid (ValidV xs sv off → (Ar.Good ss ⟨m, xs, sv, off⟩ ↔ inN xs sv off ((ss.getD m s0).2.length : Int) = true)) := fun hv => by
     rw [← za17 hv]
     unfold Ar.Good GoodA
     simp only [Int.toNat_natCast]
     exact ⟨fun q => q.2.2, fun q => ⟨⟨hm0, hm1⟩, hv, q⟩⟩
    have hbadv : Hid (¬ ValidV xs sv off → ¬ Ar.Good ss ⟨m, xs, sv, off⟩) := fun q1 q2 => q1 q2.2.1
    have HOP : Hid (Ar.open U ss ⟨m, xs, sv, off⟩ = openC xs sv off m (ss.getD m s0).1 (σ su (ss.getD m s0).2.length cu)) := by
     show _ = _
     unfold Ar.open
     simp only [Int.toNat_natCast]
     rw [hUm]
    clear hrow t0 t1 hUm
    generalize (ss.getD m s0).1 = DT at q4 q4a HOP
    generalize (ss.getD m s0).2 = cs at q5 q5a hgood hcl HOP
    have xb : Ext (wr.alloc (χ #[O ι (m : Int), σ s1 xs.length d1, σ s2 sv.length d2, O ι off] 30)) ((wr.alloc (χ #[O ι (m : Int), σ s1 xs.length d1, σ s2 sv.length d2, O ι off] 30)).alloc (χ #[O ι DT, σ su cs.length cu] 41)) := (Ext.refl _).alloc _ _
    have xab := xa.trans xb
    have hfix := hide (zs7 (HI1.out.ext xab) (HI2.out.ext xab) off lx ls)
    have na := fun j => zg wr #[O ι (m : Int), σ s1 xs.length d1, σ s2 sv.length d2, O ι off] 30 wr.heap.size rfl j
    have nb := fun j => zg (wr.alloc (χ #[O ι (m : Int), σ s1 xs.length d1, σ s2 sv.length d2, O ι off] 30)) #[O ι DT, σ su cs.length cu] 41 (wr.heap.size + 1) (by simp) j
    have NA0 : Hid (((wr.alloc (χ #[O ι (m : Int), σ s1 xs.length d1, σ s2 sv.length d2, O ι off] 30)).alloc (χ #[O ι DT, σ su cs.length cu] 41)).cell? ⟨wr.heap.size, 0, none⟩ = some (O ι (m : Int))) := xb.box (na 0)
    have NB0 : Hid (((wr.alloc (χ #[O ι (m : Int), σ s1 xs.length d1, σ s2 sv.length d2, O ι off] 30)).alloc (χ #[O ι DT, σ su cs.length cu] 41)).cell? ⟨wr.heap.size + 1, 0, none⟩ = some (O ι DT)) := nb 0
    have NB1 : Hid (((wr.alloc (χ #[O ι (m : Int), σ s1 xs.length d1, σ s2 sv.length d2, O ι off] 30)).alloc (χ #[O ι DT, σ su cs.length cu] 41)).cell? ⟨wr.heap.size + 1, 1, none⟩ = some (σ su cs.length cu)) := nb 1
    have XAB := hide xab
    clear xa xb xab na nb
    by_cases hv : ValidV xs sv off
    ·have hdv : (dcValidV xs sv off) = true := dcValidV_t hv
     have hgv := hide (hgood.out hv)
     have HV := hide hv
     clear hv
     clear hgood hbadv
     go_wp2_with fail
     refine hfix.out.mono ?_
     rintro e w4 ⟨A, rfl, hA, _, x4⟩
     obtain rfl := hA HV.out
     rw [hdv]
     have p0 := x4.box NA0.out
     have p1 := x4.box NB0.out
     have p2 := x4.box NB1.out
     have X4 := hide (XAB.out.trans x4)
     clear x4 hfix NA0 NB0 NB1 XAB
     have hr := HV.out.1.2.1
     have hx4 := HV.out.1.1
     have hl2 := HV.out.2.1
     have ho2 := HV.out.2.2.1
     have hs2 := HV.out.2.2.2.1
     have xf : Ext w4 (w4.alloc (χ (vw xs sv off) 65)) := (Ext.refl w4).alloc _ _
     have hwi := hide (zd13 (cs.length : Int) ⟨by omega, by omega⟩ (w4.alloc (χ (vw xs sv off) 65)) xs sv off hx4 hr hl2 hs2 ho2)
     have p0f := xf.box p0
     have p1f := xf.box p1
     have p2f := xf.box p2
     have nf := fun j => zg w4 (vw xs sv off) 65 w4.heap.size rfl j
     have NF := hide nf
     have X5 := hide (X4.out.trans xf)
     clear xf nf hr hx4 hl2 ho2 hs2
     have HC : Hid (∀ (st dt : Int) (u : Value), openC xs sv off st dt u = [O ι xs.length, O ι (xs.getD 0 0), O ι (xs.getD 1 0), O ι (xs.getD 2 0), O ι (xs.getD 3 0), O ι (sv.getD 0 0), O ι (sv.getD 1 0), O ι (sv.getD 2 0), O ι (sv.getD 3 0), O ι off, O ι st, O ι dt, u]) := fun _ _ _ => rfl
     unfold vw at p0f p1f p2f hwi NF X5 ⊢
     generalize xs.getD 0 0 = a0 at p0f p1f p2f hwi NF X5 HC ⊢
     generalize xs.getD 1 0 = a1 at p0f p1f p2f hwi NF X5 HC ⊢
     generalize xs.getD 2 0 = a2 at p0f p1f p2f hwi NF X5 HC ⊢
     generalize xs.getD 3 0 = a3 at p0f p1f p2f hwi NF X5 HC ⊢
     generalize sv.getD 0 0 = b0 at p0f p1f p2f hwi NF X5 HC ⊢
     generalize sv.getD 1 0 = b1 at p0f p1f p2f hwi NF X5 HC ⊢
     generalize sv.getD 2 0 = b2 at p0f p1f p2f hwi NF X5 HC ⊢
     generalize sv.getD 3 0 = b3 at p0f p1f p2f hwi NF X5 HC ⊢
     cases hin : inN xs sv off (cs.length : Int) with
     | false =>
      have hno := hide (hno.out (fun q => by have := hgv.out.1 q; rw [hin] at this; cases this))
      rw [hin] at hwi
      go_wp2_with (go_at_call 61; refine hwi.out.mono ?_; rintro e w6 ⟨rfl, x6⟩)
      refine bodyPost_ret (results_tmp2 rfl _ _ _) rfl ?_
      unfold OpenNOk
      rw [hno.out]
      exact ⟨_, rfl, Bel.tr HBW.out (X5.out.trans x6).bl, Or.inl (by omega)⟩
     | true =>
      have hG := hide (hnx.out (hgv.out.2 hin))
      rw [hin] at hwi
      go_wp2_with fail
      refine hwi.out.mono ?_
      rintro e w6 ⟨rfl, x6⟩
      have r0 := x6.box p0f
      have r1 := x6.box p1f
      have r2 := x6.box p2f
      have f0 := x6.box (NF.out 0)
      have f1 := x6.box (NF.out 1)
      have f2 := x6.box (NF.out 2)
      have f3 := x6.box (NF.out 3)
      have f4 := x6.box (NF.out 4)
      have f5 := x6.box (NF.out 5)
      have f6 := x6.box (NF.out 6)
      have f7 := x6.box (NF.out 7)
      have f8 := x6.box (NF.out 8)
      have f9 := x6.box (NF.out 9)
      have X6 := hide (X5.out.trans x6)
      clear x6 hwi NF p0f p1f p2f
      have HO6 := hide (ze16 HO.out X6.out)
      have hsz6 : BB ≤ (w6.alloc (χ #[O ι xs.length, O ι a0, O ι a1, O ι a2, O ι a3, O ι b0, O ι b1, O ι b2, O ι b3, O ι off, O ι (m : Int), O ι DT, σ su cs.length cu] 67)).heap.size := by rw [← hBB]; exact Below.size (Bel.tr HB.out (X6.out.alloc _ _).bl)
      have hnew : ∀ j x, ([O ι xs.length, O ι a0, O ι a1, O ι a2, O ι a3, O ι b0, O ι b1, O ι b2, O ι b3, O ι off, O ι (m : Int), O ι DT, σ su cs.length cu] : List Value)[j]? = some x → (w6.alloc (χ #[O ι xs.length, O ι a0, O ι a1, O ι a2, O ι a3, O ι b0, O ι b1, O ι b2, O ι b3, O ι off, O ι (m : Int), O ι DT, σ su cs.length cu] 67)).cell? ((⟨w6.heap.size, 0, none⟩ : Addr).add j) = some x := fun j x hx => by
       have n1 := fun j => zg w6 #[O ι xs.length, O ι a0, O ι a1, O ι a2, O ι a3, O ι b0, O ι b1, O ι b2, O ι b3, O ι off, O ι (m : Int), O ι DT, σ su cs.length cu] 67 w6.heap.size rfl j
       rw [Addr.add_lit, Nat.zero_add, n1 j]
       simpa using hx
      have hone : ∀ x ∈ ([O ι xs.length, O ι a0, O ι a1, O ι a2, O ι a3, O ι b0, O ι b1, O ι b2, O ι b3, O ι off, O ι (m : Int), O ι DT, σ su cs.length cu] : List Value), x.oneCell' = true := fun x hx => by
       simp only [List.mem_cons, List.not_mem_nil, or_false] at hx
       rcases hx with rfl | rfl | rfl | rfl | rfl | rfl | rfl | rfl | rfl | rfl | rfl | rfl | rfl <;> rfl
      have Hsz6 := hide hsz6
      have Hnew := hide hnew
      have Hone := hide hone
      clear hsz6 hnew hone
      go_wp2_with (at_builtin; (refine wpList_append_own_at _ rfl _ _ 57 rfl BB 67 i77 (γ #[O ι 0, O ι 0, O ι 0, O ι 0, O ι 0, O ι 0, O ι 0, O ι 0, O ι 0, O ι 0, O ι 0, O ι 0, σ none 0 0]) 13 120 Tryz.underlying57 hi77 hy0 hy1 hy2 rfl (by decide) _ _ _ rfl (HO6.out.alloc _) ⟨w6.heap.size, 0, none⟩ 1 1 [O ι xs.length, O ι a0, O ι a1, O ι a2, O ι a3, O ι b0, O ι b1, O ι b2, O ι b3, O ι off, O ι (m : Int), O ι DT, σ su cs.length cu] rfl rfl Hnew.out Hone.out (by unfold maxLen; omega) (by omega) Hsz6.out ?_); intro v9 w9 hown9 hgrow9 hnil9 hat9; have HO9 := hide hown9; have HG9 := hide hgrow9; clear hown9 hgrow9 hnil9 hat9)
      have BEL : Bel w1 w9 := Below.grown (Bel.tr HB.out (X6.out.alloc _ _).bl) HG9.out (by rw [hBB]; exact Hsz6.out) (fun j hj => by rw [hBB]; exact (HO.out.lt j hj).1)
      have HBEL := hide BEL
      clear BEL
      go_roundw
      ·refine ⟨k + 1, by go_num, by omega, hG.out, HBEL.out, ?_⟩
       rw [HTK.out, HOP.out, HC.out]
       exact HO9.out
      ·simp [intOf]; omega
    ·have hdv : (dcValidV xs sv off) = false := dcValidV_f hv
     have hno := hide (hno.out (hbadv.out hv))
     clear hv
     go_wp2_with fail
     refine hfix.out.mono ?_
     rintro e w4 ⟨A, rfl, _, ⟨a0, a1, a2, a3, a4, a5, a6, a7, a8, a9, rfl⟩, x4⟩
     rw [hdv]
     go_wp2
     refine bodyPost_ret (results_tmp2 rfl _ _ _) rfl ?_
     unfold OpenNOk
     rw [hno.out]
     exact ⟨_, rfl, Bel.tr HBW.out ((XAB.out.trans x4).alloc _ _).bl, Or.inl (by omega)⟩
   ·have hkk : k = al.length := by omega
    subst hkk
    have hall : Hid (∀ a ∈ al, a.Good ss) := fun a ha => by
     obtain ⟨j, hj, e⟩ := List.mem_iff_getElem.1 ha
     have := HGd.out j hj
     rw [List.getD_eq_getElem?_getD, List.getElem?_eq_getElem hj] at this
     rw [← e]; exact this
    go_wp2
    refine bodyPost_ret (results_tmp2 rfl _ _ _) rfl ?_
    unfold OpenNOk
    rw [ho.out, if_pos hall.out]
    obtain ⟨g, cap', rfl, hgb⟩ := zz17 HO.out hn0
    have hown := HO.out
    rw [List.take_length] at hown
    refine ⟨_, rfl, Bel.tr X1.out.bl HB.out, Or.inr ⟨g, cap', U, rfl, ?_, hall.out, HU.out, fun j i x hj hx => ?_⟩⟩
    ·have := Below.size X1.out.bl
     omega
    ·have hi : i < 13 := by
      have := (List.getElem?_eq_some_iff.1 hx).1
      rwa [Ar.open_len] at this
     rw [← zi16 U ss al j i hj hi] at hx
     exact (hown.cellAt _ (by omega)).trans hx
theorem zr12 (dt : Int) (w : World) :
  Calls Tryz.prog 106 #[O ι dt] w fun e w' => e = .returned (O ι (bytesL dt)) ∧ w' = w := by
 go_enter Tryz.func106, Tryz.ntmps106
 go_wp2
 all_goals go_ret
 all_goals refine ⟨zm1 ?_, rfl⟩
 all_goals (unfold bytesL; simp only [beq_iff_eq, beq_eq_false_iff_ne, ne_eq] at *; repeat' split)
 all_goals omega
theorem zf3 (dt : Int) (w : World) :
  Calls Tryz.prog 95 #[O ι dt] w fun e w' => e = .returned (O ι (8 * bytesL dt)) ∧ w' = w := by
 have hb : 1 ≤ bytesL dt ∧ bytesL dt ≤ 16 := by unfold bytesL; omega
 go_enter Tryz.func95, Tryz.ntmps95
 go_wp2_with (go_at_call 106; refine (zr12 _ _).mono ?_; rintro e w' ⟨rfl, rfl⟩)
 go_ret
 exact ⟨rfl, rfl⟩
theorem zl6 (v m : Int) (hm : 0 < m) : v.tmod m = if 0 ≤ v then v % m else -((-v) % m) := by
 split
 ·rename_i h; exact Int.tmod_eq_emod_of_nonneg h
 ·rename_i h
  have := Int.neg_tmod (a := -v) (b := m)
  rw [Int.neg_neg] at this
  rw [this, Int.tmod_eq_emod_of_nonneg (by omega)]
theorem zu20 (v : Int) (hv : I64 v) (w : World) :
  Calls Tryz.prog 72 #[O ι 2, O ι v] w fun e w' => e = .returned (O ι (cutL 2 v)) ∧ w' = w := by
 have hb : bytesL 2 = 1 := by decide
 have hh : highL 2 = 127 := by decide
 have Ht := hide (zl6 v 256 (by decide))
 go_enter Tryz.func72, Tryz.ntmps72
 go_wp2_with (first | (go_at_call 95; refine (zf3 _ _).mono ?_; rintro e w' ⟨rfl, rfl⟩) | (go_at_call 83; refine (zm2 _ _).mono ?_; rintro e w' ⟨rfl, rfl⟩))
 all_goals go_ret
 all_goals refine ⟨zm1 ?_, rfl⟩
 all_goals go_light
 all_goals (have ht := Ht.out; unfold I64 at hv; unfold cutL; simp only [wrap64, IntKind.wrap_i64] at *; simp; split at ht <;> omega)
theorem zt20 (v : Int) (hv : I64 v) (w : World) :
  Calls Tryz.prog 72 #[O ι 3, O ι v] w fun e w' => e = .returned (O ι (cutL 3 v)) ∧ w' = w := by
 have hb : bytesL 3 = 1 := by decide
 have hh : highL 3 = 255 := by decide
 have Ht := hide (zl6 v 256 (by decide))
 go_enter Tryz.func72, Tryz.ntmps72
 go_wp2_with (first | (go_at_call 95; refine (zf3 _ _).mono ?_; rintro e w' ⟨rfl, rfl⟩) | (go_at_call 83; refine (zm2 _ _).mono ?_; rintro e w' ⟨rfl, rfl⟩))
 all_goals go_ret
 all_goals refine ⟨zm1 ?_, rfl⟩
 all_goals go_light
 all_goals (have ht := Ht.out; unfold I64 at hv; unfold cutL; simp only [wrap64, IntKind.wrap_i64] at *; simp; split at ht <;> omega)
theorem zs20 (v : Int) (hv : I64 v) (w : World) :
  Calls Tryz.prog 72 #[O ι 4, O ι v] w fun e w' => e = .returned (O ι (cutL 4 v)) ∧ w' = w := by
 have hb : bytesL 4 = 2 := by decide
 have hh : highL 4 = 32767 := by decide
 have Ht := hide (zl6 v 65536 (by decide))
 go_enter Tryz.func72, Tryz.ntmps72
 go_wp2_with (first | (go_at_call 95; refine (zf3 _ _).mono ?_; rintro e w' ⟨rfl, rfl⟩) | (go_at_call 83; refine (zm2 _ _).mono ?_; rintro e w' ⟨rfl, rfl⟩))
 all_goals go_ret
 all_goals refine ⟨zm1 ?_, rfl⟩
 all_goals go_light
 all_goals (have ht := Ht.out; unfold I64 at hv; unfold cutL; simp only [wrap64, IntKind.wrap_i64] at *; simp; split at ht <;> omega)
theorem zr20 (v : Int) (hv : I64 v) (w : World) :
  Calls Tryz.prog 72 #[O ι 5, O ι v] w fun e w' => e = .returned (O ι (cutL 5 v)) ∧ w' = w := by
 have hb : bytesL 5 = 4 := by decide
 have hh : highL 5 = 2147483647 := by decide
 have Ht := hide (zl6 v 4294967296 (by decide))
 go_enter Tryz.func72, Tryz.ntmps72
 go_wp2_with (first | (go_at_call 95; refine (zf3 _ _).mono ?_; rintro e w' ⟨rfl, rfl⟩) | (go_at_call 83; refine (zm2 _ _).mono ?_; rintro e w' ⟨rfl, rfl⟩))
 all_goals go_ret
 all_goals refine ⟨zm1 ?_, rfl⟩
 all_goals go_light
 all_goals (have ht := Ht.out; unfold I64 at hv; unfold cutL; simp only [wrap64, IntKind.wrap_i64] at *; simp; split at ht <;> omega)
theorem zq20 (v : Int) (w : World) :
  Calls Tryz.prog 72 #[O ι 6, O ι v] w fun e w' => e = .returned (O ι (cutL 6 v)) ∧ w' = w := by
 have hb : bytesL 6 = 8 := by decide
 go_enter Tryz.func72, Tryz.ntmps72
 go_wp2_with (first | (go_at_call 95; refine (zf3 _ _).mono ?_; rintro e w' ⟨rfl, rfl⟩))
 go_ret
 exact ⟨zm1 (by unfold cutL; simp), rfl⟩
theorem zv16 (dt v : Int) (h : 2 ≤ dt ∧ dt ≤ 6) (hv : I64 v) (w : World) :
  Calls Tryz.prog 72 #[O ι dt, O ι v] w fun e w' => e = .returned (O ι (cutL dt v)) ∧ w' = w := by
 have : dt = 2 ∨ dt = 3 ∨ dt = 4 ∨ dt = 5 ∨ dt = 6 := by omega
 rcases this with rfl | rfl | rfl | rfl | rfl
 ·exact zu20 v hv w
 ·exact zt20 v hv w
 ·exact zs20 v hv w
 ·exact zr20 v hv w
 ·exact zq20 v w
theorem zd18 {dt : Int} {x : C3} (h : OkC dt x) : I64 x.1 ∧ B64 x.2.1 ∧ B64 x.2.2 := ⟨h.1, h.2.1, h.2.2.1⟩
theorem zd19 {dt : Int} {x : C3} (h : OkC dt x) (hd : isDtB dt = true) (w : World) :
  Calls Tryz.prog 69 #[O ι dt, O ι dt, cellV x] w fun e w' => e = .returned (cellV x) ∧ Ext w w' := by
 obtain ⟨i, f, g⟩ := x
 obtain ⟨h1, h2, h3, h4⟩ := h
 unfold cellV
 have x0 : Ext w (w.alloc (χ #[O ι i, .float .f64 f, .float .f64 g] 47)) := (Ext.refl w).alloc _ _
 have x1 : Ext (w.alloc (χ #[O ι i, .float .f64 f, .float .f64 g] 47)) ((w.alloc (χ #[O ι i, .float .f64 f, .float .f64 g] 47)).alloc (χ #[O ι 0, .float .f64 0, .float .f64 0] 47)) := (Ext.refl _).alloc _ _
 have X0 := hide (x0.trans x1)
 have n0 := fun j => zg w #[O ι i, .float .f64 f, .float .f64 g] 47 w.heap.size rfl j
 have n1 := fun j => zg (w.alloc (χ #[O ι i, .float .f64 f, .float .f64 g] 47)) #[O ι 0, .float .f64 0, .float .f64 0] 47 (w.heap.size + 1) (by simp) j
 have k0 := x1.box (n0 0)
 have k1 := x1.box (n0 1)
 have k2 := x1.box (n0 2)
 have m0 := n1 0
 have m1 := n1 1
 have m2 := n1 2
 simp only [List.getElem?_toArray, List.getElem?_cons_zero, List.getElem?_cons_succ] at m0 m1 m2
 clear n0 n1 x0 x1
 have hval := hide (fun W => zt8 dt i f g h1 h2 h3 W)
 rw [h4] at hval
 clear h1 h2 h3 h4
 go_enter Tryz.func69, Tryz.ntmps69
 go_wp2_with (go_at_call 87; refine (zd2 _ _).mono ?_; rintro e w' ⟨rfl, rfl⟩; rw [hd])
 generalize ((w.alloc (χ #[O ι i, .float .f64 f, .float .f64 g] 47)).alloc (χ #[O ι 0, .float .f64 0, .float .f64 0] 47)) = W0 at *
 refine (hval.out _).mono ?_
 rintro e w1 ⟨rfl, x1⟩
 have c0 := x1.box k0
 have c1 := x1.box k1
 have c2 := x1.box k2
 have d0 := x1.box m0
 have d1 := x1.box m1
 have d2 := x1.box m2
 have HX := hide (X0.out.trans x1)
 have fz := fun (q : Nat) => HX.out.unfrozen (b := w.heap.size + 1) (by omega) q
 have hf := fz 0
 have hf1 := fz 1
 have hf2 := fz 2
 clear x1 k0 k1 k2 m0 m1 m2 X0 hval fz
 go_wp2_with fail
 refine bodyPost_ret (v := γ #[O ι i, .float .f64 f, .float .f64 g]) (by simp [results, Tryz.results69, go_sem, d0, d1, d2]) rfl ⟨rfl, ?_⟩
 exact ((HX.out.setCell (p := ⟨w.heap.size + 1, 0, none⟩) (by show _ ≤ w.heap.size + 1; omega) _).setCell (p := ⟨w.heap.size + 1, 1, none⟩) (by show _ ≤ w.heap.size + 1; omega) _).setCell (p := ⟨w.heap.size + 1, 2, none⟩) (by show _ ≤ w.heap.size + 1; omega) _
def SCv (dt : Int) (x : C3) (w : World) (e : Ending) (w' : World) : Prop := ∃ c, e = .returned (cellV c) ∧ C3.Sm c x ∧ OkC dt c ∧ Ext w w'
end
section
open Go.ChangeShapes Go.RowKit Go.Shelf
attribute [local go_sem] Oper.semAt_some
theorem zh19 : Tryz.zeroCells130 = Array.replicate 4096 (.bool false) := by kernel_rfl
theorem zw11 (j : Nat) (hj : j < 4096) : Tryz.zeroCells130[j]? = some (.bool false) := by
 rw [zh19, Array.getElem?_replicate, if_pos hj]
structure Mk (W : World) (Bs : Nat) (L : List Int) : Prop where
 at_ : ∀ j : Nat, j < 4096 → W.cell? ⟨Bs, j, none⟩ = some (.bool (decide ((j : Int) ∈ L)))
 fz : ∀ j : Nat, j < 4096 → W.frozen? ⟨Bs, j, none⟩ = false
theorem Mk.kept {W W' : World} {Bs : Nat} {L : List Int} {row : Option Nat} (h : Mk W Bs L) (hg : W.grownBy W' row) (hr : ∀ r, row = some r → ∃ o : Obj, W.heap[r]? = some o ∧ o.isCells = false) : Mk W' Bs L :=
 ⟨fun j hj => cell_kept (h.at_ j hj) hg hr, fun j hj => (frozen_kept (h.at_ j hj) hg hr).trans (h.fz j hj)⟩
theorem Mk.mark {W : World} {Bs : Nat} {L : List Int} (h : Mk W Bs L) (k : Nat) (hk : k < 4096) : Mk (W.setCell ⟨Bs, k, none⟩ (.bool true)) Bs (L ++ [(k : Int)]) := by
 refine ⟨fun j hj => ?_, fun j hj => (World.frozen?_setCell _ _ _ _).trans (h.fz j hj)⟩
 by_cases e : j = k
 ·subst e
  rw [World.cell?_setCell_same' _ _ _ (by rw [h.at_ j hj]; rfl)]
  simp
 ·rw [show (W.setCell ⟨Bs, k, none⟩ (.bool true)).cell? ⟨Bs, j, none⟩ = W.cell? ⟨Bs, j, none⟩ from World.cell?_setCell_other _ _ _ _ (fun q => e (by cases q; rfl)), h.at_ j hj]
  have : ((j : Int) ∈ L ++ [(k : Int)]) ↔ ((j : Int) ∈ L) := by
   simp only [List.mem_append, List.mem_singleton]
   exact ⟨fun q => q.elim id (fun q => absurd (by omega) e), Or.inl⟩
  simp only [this]
structure DSt (w W0 : World) : Prop where
 size : W0.heap.size = w.heap.size + 4
 res : W0.cell? ⟨w.heap.size + 1, 0, none⟩ = some (.bool false)
 resF : W0.frozen? ⟨w.heap.size + 1, 0, none⟩ = false
 mrk : Mk W0 (w.heap.size + 1 + 1) []
 bl : Below w.heap.size w W0
theorem DSt.start (w : World) (V : Array Value) : DSt w ((((w.alloc (.cells V 65)).alloc (χ #[.bool false] 4)).alloc (.cells Tryz.zeroCells130 130)).alloc (.cells V 65)) := by
 have hb1 : Below w.heap.size w (w.alloc (.cells V 65)) := (Below.refl _ w).alloc (Nat.le_refl _) _
 have hb2 : Below w.heap.size w ((w.alloc (.cells V 65)).alloc (χ #[.bool false] 4)) := hb1.alloc (by simp) _
 have hb3 : Below w.heap.size w (((w.alloc (.cells V 65)).alloc (χ #[.bool false] 4)).alloc (.cells Tryz.zeroCells130 130)) := hb2.alloc (by simp; omega) _
 have c1 : ((w.alloc (.cells V 65)).alloc (χ #[.bool false] 4)).cell? ⟨w.heap.size + 1, 0, none⟩ = some (.bool false) := zg _ _ 4 _ (by simp) 0
 have f1 : ((w.alloc (.cells V 65)).alloc (χ #[.bool false] 4)).frozen? ⟨w.heap.size + 1, 0, none⟩ = false := zp7 _ _ 4 _ 0 (by simp)
 have c2 : ∀ j, j < 4096 → (((w.alloc (.cells V 65)).alloc (χ #[.bool false] 4)).alloc (.cells Tryz.zeroCells130 130)).cell? ⟨w.heap.size + 1 + 1, j, none⟩ = some (.bool false) := fun j hj => (zg _ _ 130 _ (by simp) j).trans (zw11 j hj)
 have f2 : ∀ j, j < 4096 → (((w.alloc (.cells V 65)).alloc (χ #[.bool false] 4)).alloc (.cells Tryz.zeroCells130 130)).frozen? ⟨w.heap.size + 1 + 1, j, none⟩ = false := fun j _ => zp7 _ _ 130 _ j (by simp)
 exact ⟨by simp, zu7 _ (zu7 _ c1), zq7 _ (zu7 _ c1) (zq7 _ c1 f1), ⟨fun j hj => by rw [zu7 _ (c2 j hj)]; simp, fun j hj => zq7 _ (c2 j hj) (f2 j hj)⟩, hb3.alloc (by simp; omega) _⟩
theorem zj17 (n : Nat) (hn : 3 ≤ n) (xs ss : List Int) (off : Int) (w : World) (h4 : xs.length ≤ 4) (hl : ss.length = xs.length) (hr : InR xs xs.length) (hp : prod xs ≤ 4096) (hss : InS ss ss.length) (ho : 0 ≤ off ∧ off ≤ 4096) (hPr : ∀ x ∈ offsL xs ss off, 0 ≤ x ∧ x < 4096) :
  CallsIn Fence.wide n Tryz.prog 62 #[γ (vw xs ss off)] w fun e w' => e = .returned (.bool (decide (offsL xs ss off).Nodup)) ∧ Below w.heap.size w w' := by
 have hpl := hide (fun n W => zb4 n xs ss off W)
 have hst := hide (ze20 (n - 1) (w.heap.size + 1 + 1 + 1) xs ss off h4 hl hr hp hss ho hPr (((w.alloc (χ (vw xs ss off) 65)).alloc (χ #[.bool false] 4)).alloc (.cells Tryz.zeroCells130 130)) (by simp))
 have hdd : ∀ k : Nat, (Fence.wide.depth.isSome = true → 1 ≤ k) := fun k h => by cases h
 have X0 := hide (DSt.start w (vw xs ss off))
 clear hPr hss hp hr ho hl h4
 generalize offsL xs ss off = OL at *
 unfold vw at hpl X0 hst ⊢
 generalize xs.getD 0 0 = a0 at *
 generalize xs.getD 1 0 = a1 at *
 generalize xs.getD 2 0 = a2 at *
 generalize xs.getD 3 0 = a3 at *
 generalize ss.getD 0 0 = s0 at *
 generalize ss.getD 1 0 = s1 at *
 generalize ss.getD 2 0 = s2 at *
 generalize ss.getD 3 0 = s3 at *
 refine callsIn_of_wp_marks Tryz.func62 rfl trivial ?_ rfl
 simp only [Tryz.ntmps62, List.size_toArray, List.length_cons, List.length_nil, Nat.reduceAdd, Nat.reduceSub, Array.replicate_succ, Array.replicate_zero, List.push_toArray, List.append_toArray, List.nil_append, List.cons_append]
 gi_wp2
 refine ⟨trivial, hdd _, ?_⟩
 refine (hpl.out _ _).mono ?_
 rintro e w' ⟨rfl, rfl⟩
 clear hpl
 have h1 : 1 ≤ n := by omega
 gi_wp2
 generalize hW0 : World.alloc (((w.alloc _).alloc _).alloc _) _ = W0 at X0 hst ⊢
 clear hW0
 have hsz := X0.out.size
 refine wpIn_rangeFunc_ownF rfl h1 (gf := 65) (lb := #[π (some ⟨w.heap.size + 1 + 1 + 1, 0, none⟩)]) rfl trivial (enters_of Tryz.func65 (by kernel_rfl) rfl)
  hst.out (fun h k => KC.trans h k) (fun W l o o' h1 h2 h3 h4 => zx16 W l o o' h1 h2 h3 h4) (Below.refl _ _) (fun _ => rfl)
  (fun pre W => ((plv pre).Nodup ∧ W.cell? ⟨w.heap.size + 1, 0, none⟩ = some (.bool false) ∧ W.frozen? ⟨w.heap.size + 1, 0, none⟩ = false ∧ Mk W (w.heap.size + 1 + 1) (plv pre)) ∧ Below w.heap.size w W)
  (fun c pre W => (c = .ret ∧ ¬ (plv pre).Nodup ∧ W.cell? ⟨w.heap.size + 1, 0, none⟩ = some (.bool false)) ∧ Below w.heap.size w W)
  (OwnFrom.and (Own.from (fun s A B row hs hg hr => ⟨hs.1, cell_kept hs.2.1 hg hr, (frozen_kept hs.2.1 hg hr).trans hs.2.2.1, hs.2.2.2.kept hg hr⟩) _) (ownFrom_below (Nat.le_refl _) (by omega)))
  (fun c => OwnFrom.and (Own.from (fun s A B row hs hg hr => ⟨hs.1, hs.2.1, cell_kept hs.2.2 hg hr⟩) _) (ownFrom_below (Nat.le_refl _) (by omega)))
  ⟨⟨by simp [plv], X0.out.res, X0.out.resF, X0.out.mrk⟩, X0.out.bl⟩
  (fun x => { tmps := #[γ #[O ι xs.length, O ι a0, O ι a1, O ι a2, O ι a3, O ι s0, O ι s1, O ι s2, O ι s3, O ι off], π (some ⟨w.heap.size, 0, none⟩), π (some ⟨w.heap.size + 1, 0, none⟩), π (some ⟨w.heap.size + 1 + 1, 0, none⟩), O ι x.1, γ #[O ι xs.length, O ι a0, O ι a1, O ι a2, O ι a3, O ι s0, O ι s1, O ι s2, O ι s3, O ι off], .func (.func 65) #[] #[π (some ⟨w.heap.size + 1 + 1 + 1, 0, none⟩)], O ι x.1, undef, undef, undef, undef, undef], defers := [] }) ?assign ?body ?done ?stop
 case assign =>
  intro l x W K hK
  gi_wp2
  exact hK
 case body =>
  rintro l pre ⟨x, hx⟩ W ⟨⟨hnd, hcr, hfr, hmk⟩, hB⟩ _
  obtain ⟨k, rfl⟩ : ∃ k : Nat, x = k := ⟨x.toNat, by omega⟩
  have hk : k < 4096 := by omega
  have q0 := hmk.at_ k hk
  have q1 := hmk.fz k hk
  by_cases hin : (k : Int) ∈ plv pre
  ·rw [decide_eq_true hin] at q0
   gi_wp2
   exact ⟨KeepsOthers.setCell _ _ _, ⟨rfl, fun h => by
    rw [zc3] at h
    exact (List.nodup_append.1 h).2.2 _ hin _ (List.mem_singleton.2 rfl) rfl, World.cell?_setCell_same' _ _ _ (by rw [hcr]; rfl)⟩, hB.setCell (p := ⟨w.heap.size + 1, 0, none⟩) (by simp) _⟩
  ·rw [decide_eq_false hin] at q0
   gi_wp2
   refine ⟨KeepsOthers.setCell _ _ _, KC.setCell W (p := ⟨w.heap.size + 1 + 1, k, none⟩) (by show w.heap.size + 1 + 1 < _; omega) _, ⟨?_, ?_, ?_, ?_⟩, hB.setCell (p := ⟨w.heap.size + 1 + 1, k, none⟩) (by show _ ≤ w.heap.size + 1 + 1; omega) _⟩
   ·rw [zc3]
    refine List.nodup_append.2 ⟨hnd, by simp [plv], fun a ha b hb e => ?_⟩
    have : b = (k : Int) := by simpa [plv] using hb
    subst this
    subst e
    exact hin ha
   ·exact (World.cell?_of_block (Below.heap_setCell _ _ _ _ (by show w.heap.size + 1 ≠ w.heap.size + 1 + 1; omega))).trans hcr
   ·exact (World.frozen?_setCell _ _ _ _).trans hfr
   ·rw [zc3]; exact hmk.mark k hk
 case done =>
  rintro D ys W hD hS ⟨⟨hnd, hcr, hfr, hmk⟩, hB⟩ hK
  gi_wp2
  have hK' := (KeepsOthers.setCell W ⟨w.heap.size + 1, 0, none⟩ (.bool true)).same D _ hK rfl
  refine ⟨by simp, .inl ⟨_, _, rfl, run_takeDeferred hK', ?_⟩⟩
  have hc5 := cell_kept (World.cell?_setCell_same' W ⟨w.heap.size + 1, 0, none⟩ (.bool true) (by rw [hcr]; rfl)) (grownBy_putObj' _ D (.deferred none)) (fun r e => by cases e; exact ⟨_, hK', rfl⟩)
  refine ⟨.bool true, ?_, by rw [decide_eq_true (by rw [← hS]; exact hnd)], (hB.setCell (p := ⟨w.heap.size + 1, 0, none⟩) (by simp) _).trans (belowK_b (w := w) (Nat.le_refl _) _ D _ _ (by omega) hK' rfl rfl)⟩
  simp [results, Tryz.f62, go_sem, hc5]
 case stop =>
  rintro D c pre W hD hpre ⟨⟨rfl, hnd, hcr⟩, hB⟩ hK
  gi_wp2
  refine ⟨by simp, .inl ⟨_, _, rfl, run_takeDeferred hK, ?_⟩⟩
  have hc5 := cell_kept hcr (grownBy_putObj' _ D (.deferred none)) (fun r e => by cases e; exact ⟨_, hK, rfl⟩)
  refine ⟨.bool false, ?_, by rw [decide_eq_false (fun h => hnd (List.Sublist.nodup hpre.sublist h))], hB.trans (belowK_b (w := w) (Nat.le_refl _) W D _ _ (by omega) hK rfl rfl)⟩
  simp [results, Tryz.f62, go_sem, hc5]
end
section
open Go.ChangeShapes Go.RowKit
abbrev WrV (xs ss : List Int) (off : Int) : Prop := ValidV xs ss off ∧ (offsL xs ss off).Nodup
def dcWrV (xs ss : List Int) (off : Int) : Bool := decide (WrV xs ss off)
theorem dcWrV_t {xs ss : List Int} {off : Int} (h : WrV xs ss off) : dcWrV xs ss off = true := decide_eq_true h
theorem dcWrV_f {xs ss : List Int} {off : Int} (h : ¬ WrV xs ss off) : dcWrV xs ss off = false := decide_eq_false h
theorem zi15 {xs ss : List Int} {off : Int} (hv : ValidV xs ss off) (w : World) :
  Calls Tryz.prog 62 #[γ (vw xs ss off)] w fun e w' => e = .returned (.bool (decide (offsL xs ss off).Nodup)) ∧ Bel w w' :=
 callsIn_wide.1 (zj17 3 (Nat.le_refl _) xs ss off w hv.1.1 hv.2.1 hv.1.2.1 hv.1.2.2 hv.2.2.2.1 hv.2.2.1 (zj3 hv))
theorem zh22 : (Tryz.prog.info? 4).map (fun i => (i.zero, i.size, i.bytes)) = some (some (.bool false), 1, 1) := by kernel_rfl
theorem zw14 (W : World) : ∃ MC : Array Value, (∀ j, j < 4096 → MC[j]? = some (.bool false)) ∧ (Instr.makeSlice 55 (O ι 4096) (O ι 4096)).run Tryz.prog W = .ok (σ (some ⟨W.heap.size, 0, none⟩) 4096 4096) (W.alloc (.cells MC 4)) := by
 refine ⟨madeCells #[.bool false] 4096, fun j hj => ?_, run_make_row' (P := Tryz.prog) 55 4 (.bool false) 1 Tryz.underlying55 zh22 rfl .i64 .i64 4096 (by omega) (by omega) W⟩
 simp [madeCells, hj, Nat.mod_one]
structure MR (w wr : World) (Bm : Nat) (sa : Option Addr) (L : List Int) (k : Nat) : Prop where
 nd : (L.take k).Nodup
 mrk : Mk wr Bm (L.take k)
 own : OwnI wr (Bm + 1) sa L
 bl : Below w.heap.size w wr
theorem MR.step {w wr : World} {Bm : Nat} {sa : Option Addr} {L : List Int} {k m : Nat} (h : MR w wr Bm sa L k) (hk : k < L.length) (hm : L.getD k 0 = (m : Int)) (hm4 : m < 4096) (hn : ¬ ((m : Int) ∈ L.take k)) (hw : w.heap.size ≤ Bm) : MR w (wr.setCell ⟨Bm, m, none⟩ (.bool true)) Bm sa L (k + 1) := by
 have e := ze1 L k hk
 rw [hm] at e
 refine ⟨?_, ?_, ?_, h.bl.setCell (p := ⟨Bm, m, none⟩) hw _⟩
 ·rw [e]
  refine List.nodup_append.2 ⟨h.nd, by simp, fun a ha b hb q => ?_⟩
  have : b = (m : Int) := by simpa using hb
  subst this
  subst q
  exact hn ha
 ·rw [e]; exact h.mrk.mark m hm4
 ·rcases h.own with h0 | ⟨g, h1, h2, h3, h4⟩
  ·exact Or.inl h0
  ·refine Or.inr ⟨g, h1, h2, fun j hj => ?_, fun o => (World.frozen?_setCell _ _ _ _).trans (h4 o)⟩
   exact (World.cell?_of_block (Below.heap_setCell _ _ _ g (by show g ≠ Bm; omega))).trans (h3 j hj)
theorem zu15 {w : World} {vS vT : Value} {xs ss : List Int} (hS : Ints w vS xs) (hT : Ints w vT ss) (off : Int) (lx : xs.length ≤ 1048576) (ls : ss.length ≤ 1048576) :
  Calls Tryz.prog 6 #[γ #[vS, vT, O ι off]] w fun e w' => e = .returned (.bool (dcWrV xs ss off)) ∧ Bel w w' := by
 have x0 : Ext w (w.alloc (χ #[vS, vT, O ι off] 28)) := (Ext.refl w).alloc _ _
 have X0 := hide x0.bl
 have HS := hide (hS.ext x0)
 have HT := hide (hT.ext x0)
 have n1 := fun j => zg w #[vS, vT, O ι off] 28 w.heap.size rfl j
 have k0 := n1 0
 have k1 := n1 1
 have k2 := n1 2
 clear n1 x0
 obtain ⟨sa, cap, rfl, _⟩ := hS
 obtain ⟨ta, dap, rfl, _⟩ := hT
 go_enter Tryz.func6, Tryz.ntmps6
 go_wp2_with fail
 generalize hW0 : w.alloc (χ #[σ sa xs.length cap, σ ta ss.length dap, O ι off] 28) = W0 at X0 HS HT k0 k1 k2 ⊢
 clear hW0
 refine (zh9 HS.out HT.out off lx ls).mono ?_
 rintro e W1 ⟨rfl, B1⟩
 have X1 := hide (X0.out.trans (B1.mono X0.out.size))
 have HS1 := hide (HS.out.below B1)
 have HT1 := hide (HT.out.below B1)
 have d0 := Bel.box B1 k0
 have d1 := Bel.box B1 k1
 have d2 := Bel.box B1 k2
 clear k0 k1 k2 X0 B1 HS HT
 by_cases hv : ValidV xs ss off
 ·rw [dcValidV_t hv]
  have hin := hide (zj3 hv)
  have Hv := hide hv
  obtain ⟨MC, hMC, hmk⟩ := zw14 W1
  have M2 : Hid (Mk (W1.alloc (.cells MC 4)) W1.heap.size []) := ⟨fun j hj => (zg W1 MC 4 _ rfl j).trans ((hMC j hj).trans (by simp)), fun j _ => zp7 W1 MC 4 _ j rfl⟩
  have x2 : Ext W1 (W1.alloc (.cells MC 4)) := (Ext.refl W1).alloc _ _
  have hlen := zs6 hv
  have HP := hide (za2 (HS1.out.ext x2) (HT1.out.ext x2) off hv)
  have X2 := hide (X1.out.trans (x2.bl.mono X1.out.size))
  have q0 := x2.box d0
  have q1 := x2.box d1
  have q2 := x2.box d2
  have hs2 : Hid ((W1.alloc (.cells MC 4)).heap.size = W1.heap.size + 1) := by show _ = _; simp
  have hw1 := hide (X1.out.size)
  have hWr : Hid ((dcWrV xs ss off) = decide (offsL xs ss off).Nodup) := by
   show _ = _
   by_cases h : (offsL xs ss off).Nodup
   ·rw [decide_eq_true h, dcWrV_t (show WrV xs ss off from ⟨hv, h⟩)]
   ·rw [decide_eq_false h, dcWrV_f (fun q : WrV xs ss off => h q.2)]
  clear hv hMC x2 HS1 HT1 X1 Hv
  generalize offsL xs ss off = L at *
  go_wp2_with fail
  generalize hW2 : W1.alloc (.cells MC 4) = W2 at *
  clear hW2
  refine HP.out.mono ?_
  clear HP
  rintro e W3 ⟨s3, c3, rfl, own3, B3⟩
  have S0 : Hid (MR w W3 W1.heap.size s3 L 0) := ⟨by simp, ⟨fun j hj => by rw [Bel.box B3 (M2.out.at_ j hj)]; simp, fun j hj => (Below.frozen B3 (zl (M2.out.at_ j hj))).trans (M2.out.fz j hj)⟩, by rw [← hs2.out]; exact own3, X2.out.trans (B3.mono X2.out.size)⟩
  clear hmk q0 q1 q2 d0 d1 d2 B3 own3 M2 X2 hs2
  generalize W1.heap.size = Bm at *
  go_wp2
  go_loopw [5] (fun i wr => ∃ k : Nat, i = O ι k ∧ k ≤ L.length ∧ MR w wr Bm s3 L k) (fun i _ => L.length - (intOf i).toNat)
  case atStart => exact ⟨0, rfl, by omega, S0.out⟩
  case round =>
   obtain ⟨k, rfl, hk, hM⟩ := hrel
   have HM := hide hM
   clear S0
   by_cases hlt : k < L.length
   ·rcases hM.own with h0 | ⟨g, rfl, hg, hrow, _⟩
    ·rw [h0] at hlt; simp at hlt
    have hmem : L.getD k 0 ∈ L := by
     rw [List.getD_eq_getElem?_getD, List.getElem?_eq_getElem hlt]; exact List.getElem_mem _
    have hr4 := hin.out _ hmem
    have r0 := hrow k hlt
    rw [Nat.zero_add] at r0
    obtain ⟨m, hm⟩ : ∃ m : Nat, L.getD k 0 = (m : Int) := ⟨(L.getD k 0).toNat, by omega⟩
    rw [hm] at r0 hr4
    have hm4 : m < 4096 := by omega
    have r1 := hM.mrk.at_ m hm4
    have r2 := hM.mrk.fz m hm4
    have hk0 : (0 : Int) ≤ (k : Int) := Int.natCast_nonneg _
    have hk1 : (k : Int) < (L.length : Int) := by omega
    have Hm := hide hm
    clear hrow hmem hM hm
    by_cases hin2 : (m : Int) ∈ L.take k
    ·have hno : Hid ((dcWrV xs ss off) = false) := hWr.out.trans (decide_eq_false (fun q => by
      have e := ze1 L k hlt
      rw [Hm.out] at e
      have q2 := List.Sublist.nodup (List.take_sublist (k + 1) L) q
      rw [e] at q2
      exact (List.nodup_append.1 q2).2.2 _ hin2 _ (List.mem_singleton.2 rfl) rfl))
     rw [decide_eq_true hin2] at r1
     clear hin2
     go_wp2
     go_ret
     exact ⟨zn hno.out.symm, HM.out.bl⟩
    ·have hst := hide (HM.out.step hlt Hm.out hm4 hin2 hw1.out)
     rw [decide_eq_false hin2] at r1
     clear hin2
     go_wp2
     go_roundw
     ·exact ⟨k + 1, by go_num, by omega, hst.out⟩
     ·simp [intOf]; omega
   ·have hkk : k = L.length := by omega
    have hyes : Hid ((dcWrV xs ss off) = true) := hWr.out.trans (decide_eq_true (by have := hM.nd; rw [hkk, List.take_length] at this; exact this))
    subst hkk
    clear hM
    go_wp2
    go_ret
    exact ⟨zn hyes.out.symm, HM.out.bl⟩
 ·have hno : Hid ((dcWrV xs ss off) = false) := decide_eq_false (fun q => hv q.1)
  rw [dcValidV_f hv]
  clear hv
  go_wp2
  go_ret
  exact ⟨zn hno.out.symm, X1.out⟩
end
section
open Go.RowKit Go.ChangeShapes
theorem zn2 (b : Bool) (c : Int) (w : World) :
  Calls Tryz.prog 25 #[.bool b, O ι c] w fun e w' => e = .returned (O ι (if b then c else 0)) ∧ w' = w := by
 cases b
 ·go_enter Tryz.func25, Tryz.ntmps25
  go_wp2
  go_ret
  exact ⟨rfl, rfl⟩
 ·go_enter Tryz.func25, Tryz.ntmps25
  go_wp2
  go_ret
  exact ⟨rfl, rfl⟩
def smN (xs : List Int) : Nat → Int
 | 0 => 0
 | k + 1 => if xs.getD k 0 ≠ 0 ∧ (smN xs k = 0 ∨ xs.getD k 0 < smN xs k) then xs.getD k 0 else smN xs k
def smallL (xs : List Int) : Int := smN xs xs.length
theorem zv1 {w : World} {b off cap : Nat} {xs : List Int} (h : Row w b off xs) (hl : xs.length ≤ 1000) :
  Calls Tryz.prog 24 #[σ (some ⟨b, off, none⟩) xs.length cap] w fun e w' => e = .returned (O ι (smallL xs)) ∧ w' = w := by
 have HR := hide h
 clear h
 have n0 : (0 : Int) ≤ (xs.length : Int) := Int.natCast_nonneg _
 go_enter Tryz.func24, Tryz.ntmps24
 go_wp2_with fail
 go_loopw [3, 8] (fun s i wr => ∃ k : Nat, i = O ι k ∧ k ≤ xs.length ∧ s = O ι (smN xs k) ∧ wr = w) (fun s i _ => xs.length - (intOf i).toNat)
 case atStart => exact ⟨0, rfl, by omega, rfl, rfl⟩
 case round =>
  obtain ⟨k, rfl, hk, rfl, rfl⟩ := hrel
  by_cases hkn : k < xs.length
  ·have q0 := HR.out k hkn
   have k0' : (0 : Int) ≤ (k : Int) := Int.natCast_nonneg _
   have k1 : (k : Int) < (xs.length : Int) := by omega
   have hnx : Hid (smN xs (k + 1) = if xs.getD k 0 ≠ 0 ∧ (smN xs k = 0 ∨ xs.getD k 0 < smN xs k) then xs.getD k 0 else smN xs k) := rfl
   generalize xs.getD k 0 = c at q0 hnx
   generalize smN xs k = s at hnx ⊢
   by_cases hc : c = 0
   ·have hn : Hid (smN xs (k + 1) = s) := by show _ = _; rw [hnx.out, if_neg (fun q => q.1 hc)]
    subst hc
    go_wp2_with fail
    go_roundw
    ·exact ⟨k + 1, by go_num, by omega, by rw [hn.out], by trivial⟩
    ·simp [intOf]; omega
   ·by_cases hs : s = 0
    ·have hn : Hid (smN xs (k + 1) = c) := by show _ = _; rw [hnx.out, if_pos ⟨hc, .inl hs⟩]
     subst hs
     go_wp2_with fail
     go_roundw
     ·exact ⟨k + 1, by go_num, by omega, by rw [hn.out], by trivial⟩
     ·simp [intOf]; omega
    ·by_cases hlt : c < s
     ·have hn : Hid (smN xs (k + 1) = c) := by show _ = _; rw [hnx.out, if_pos ⟨hc, .inr hlt⟩]
      go_wp2_with fail
      go_roundw
      ·exact ⟨k + 1, by go_num, by omega, by rw [hn.out], by trivial⟩
      ·simp [intOf]; omega
     ·have hd : decide (c < s) = false := decide_eq_false hlt
      have hle : s ≤ c := by omega
      have hn : Hid (smN xs (k + 1) = s) := by show _ = _; rw [hnx.out, if_neg (fun q => by rcases q.2 with e | e; exact hs e; exact hlt e)]
      go_wp2_with fail
      ·rename_i hx; exact absurd (by simpa using hx.2) hs
      go_roundw
      ·exact ⟨k + 1, by go_num, by omega, by rw [hn.out], by trivial⟩
      ·simp [intOf]; omega
  ·have hkk : k = xs.length := by omega
   subst hkk
   go_wp2
   go_ret
   exact ⟨rfl, rfl⟩
end
section
open Go.ChangeShapes Go.RowKit
theorem zn6 (W : World) (a b : Int) (t : TypeId) : Row (W.alloc (χ #[O ι a, O ι b] t)) W.heap.size 0 [a, b] := fun j hj => by
 rw [Nat.zero_add, zg W _ t _ rfl j]
 match j with
 | 0 => rfl
 | 1 => rfl
 | j + 2 => simp at hj; omega
def wrC (nd cast : Bool) : Int := smallL [if !nd then 9 else 0, if !cast then 10 else 0]
end
section
open Go.ChangeShapes Go.RowKit Go.Shelf FL
theorem zi4 (xs sv : List Int) (off st dt fr : Int) (u : Value) (hv : ValidV xs sv off) (w : World) :
  Calls Tryz.prog 27 #[γ #[O ι xs.length, O ι (xs.getD 0 0), O ι (xs.getD 1 0), O ι (xs.getD 2 0), O ι (xs.getD 3 0), O ι (sv.getD 0 0), O ι (sv.getD 1 0), O ι (sv.getD 2 0), O ι (sv.getD 3 0), O ι off, O ι st, O ι dt, u], O ι fr] w fun e w' => e = .returned (O ι (wrC (decide (offsL xs sv off).Nodup) (castL fr dt 1))) ∧ Bel w w' := by
 have hd := hide (fun W => zi15 hv W)
 generalize decide (offsL xs sv off).Nodup = nd at hd ⊢
 unfold vw at hd
 clear hv
 generalize xs.getD 0 0 = a0 at *
 generalize xs.getD 1 0 = a1 at *
 generalize xs.getD 2 0 = a2 at *
 generalize xs.getD 3 0 = a3 at *
 generalize sv.getD 0 0 = b0 at *
 generalize sv.getD 1 0 = b1 at *
 generalize sv.getD 2 0 = b2 at *
 generalize sv.getD 3 0 = b3 at *
 have x0 : Ext w (w.alloc (χ #[O ι xs.length, O ι a0, O ι a1, O ι a2, O ι a3, O ι b0, O ι b1, O ι b2, O ι b3, O ι off, O ι st, O ι dt, u] 67)) := (Ext.refl w).alloc _ _
 have n0 := fun j => zg w #[O ι xs.length, O ι a0, O ι a1, O ι a2, O ι a3, O ι b0, O ι b1, O ι b2, O ι b3, O ι off, O ι st, O ι dt, u] 67 w.heap.size rfl j
 have HS : Hid (∀ W', Bel (w.alloc (χ #[O ι xs.length, O ι a0, O ι a1, O ι a2, O ι a3, O ι b0, O ι b1, O ι b2, O ι b3, O ι off, O ι st, O ι dt, u] 67)) W' → (fun w' => w'.cell? ⟨w.heap.size, 0, none⟩ = some (O ι xs.length) ∧ w'.cell? ⟨w.heap.size, 1, none⟩ = some (O ι a0) ∧ w'.cell? ⟨w.heap.size, 2, none⟩ = some (O ι a1) ∧ w'.cell? ⟨w.heap.size, 3, none⟩ = some (O ι a2) ∧ w'.cell? ⟨w.heap.size, 4, none⟩ = some (O ι a3) ∧ w'.cell? ⟨w.heap.size, 5, none⟩ = some (O ι b0) ∧ w'.cell? ⟨w.heap.size, 6, none⟩ = some (O ι b1) ∧ w'.cell? ⟨w.heap.size, 7, none⟩ = some (O ι b2) ∧ w'.cell? ⟨w.heap.size, 8, none⟩ = some (O ι b3) ∧ w'.cell? ⟨w.heap.size, 9, none⟩ = some (O ι off) ∧ w'.cell? ⟨w.heap.size, 11, none⟩ = some (O ι dt)) W') := fun W' h => ⟨Bel.box h (n0 0), Bel.box h (n0 1), Bel.box h (n0 2), Bel.box h (n0 3), Bel.box h (n0 4), Bel.box h (n0 5), Bel.box h (n0 6), Bel.box h (n0 7), Bel.box h (n0 8), Bel.box h (n0 9), Bel.box h (n0 11)⟩
 have X0 := hide x0.bl
 clear x0 n0
 generalize hcc : castL fr dt 1 = cc
 have Hcc := hide hcc
 clear hcc
 cases nd <;> cases cc
 ·go_enter Tryz.func27, Tryz.ntmps27
  go_wp2_with fail
  generalize w.alloc (χ #[O ι xs.length, O ι a0, O ι a1, O ι a2, O ι a3, O ι b0, O ι b1, O ι b2, O ι b3, O ι off, O ι st, O ι dt, u] 67) = W1 at HS X0 ⊢
  have HB0 : Hid (Bel W1 W1.drew) := (Below.refl _ _).drew
  have SA := hide (HS.out W1.drew HB0.out)
  go_region_held3 (fun w' => w'.cell? ⟨w.heap.size, 0, none⟩ = some (O ι xs.length) ∧ w'.cell? ⟨w.heap.size, 1, none⟩ = some (O ι a0) ∧ w'.cell? ⟨w.heap.size, 2, none⟩ = some (O ι a1) ∧ w'.cell? ⟨w.heap.size, 3, none⟩ = some (O ι a2) ∧ w'.cell? ⟨w.heap.size, 4, none⟩ = some (O ι a3) ∧ w'.cell? ⟨w.heap.size, 5, none⟩ = some (O ι b0) ∧ w'.cell? ⟨w.heap.size, 6, none⟩ = some (O ι b1) ∧ w'.cell? ⟨w.heap.size, 7, none⟩ = some (O ι b2) ∧ w'.cell? ⟨w.heap.size, 8, none⟩ = some (O ι b3) ∧ w'.cell? ⟨w.heap.size, 9, none⟩ = some (O ι off) ∧ w'.cell? ⟨w.heap.size, 11, none⟩ = some (O ι dt)) (first | with_reducible exact SA.out | with_reducible exact SB.out | exact SA.out | exact SB.out | exact HS.out _ (HB2.out.alloc HB2.out.size _)) (first | (go_at_call 62; refine (hd.out _).mono ?_; rintro e w2 ⟨rfl, b2⟩; have HB2 := hide (Bel.tr HB0.out b2); have SB := hide (HS.out w2 HB2.out); clear b2) | (go_at_call 25; refine (zn2 _ _ _).mono ?_; rintro e w' ⟨rfl, rfl⟩) | (go_at_call 63; refine (zu2 _ _ _ _).mono ?_; rintro e w' ⟨rfl, rfl⟩; rw [Hcc.out]) | (go_at_call 24; refine (zv1 (xs := [9, 10]) (zn6 _ _ _ _) (by simp)).mono ?_; rintro e w' ⟨rfl, rfl⟩))
  go_wp2
  go_ret
  exact ⟨rfl, Bel.tr X0.out (HB2.out.alloc HB2.out.size _)⟩
 ·go_enter Tryz.func27, Tryz.ntmps27
  go_wp2_with fail
  generalize w.alloc (χ #[O ι xs.length, O ι a0, O ι a1, O ι a2, O ι a3, O ι b0, O ι b1, O ι b2, O ι b3, O ι off, O ι st, O ι dt, u] 67) = W1 at HS X0 ⊢
  have HB0 : Hid (Bel W1 W1.drew) := (Below.refl _ _).drew
  have SA := hide (HS.out W1.drew HB0.out)
  go_region_held3 (fun w' => w'.cell? ⟨w.heap.size, 0, none⟩ = some (O ι xs.length) ∧ w'.cell? ⟨w.heap.size, 1, none⟩ = some (O ι a0) ∧ w'.cell? ⟨w.heap.size, 2, none⟩ = some (O ι a1) ∧ w'.cell? ⟨w.heap.size, 3, none⟩ = some (O ι a2) ∧ w'.cell? ⟨w.heap.size, 4, none⟩ = some (O ι a3) ∧ w'.cell? ⟨w.heap.size, 5, none⟩ = some (O ι b0) ∧ w'.cell? ⟨w.heap.size, 6, none⟩ = some (O ι b1) ∧ w'.cell? ⟨w.heap.size, 7, none⟩ = some (O ι b2) ∧ w'.cell? ⟨w.heap.size, 8, none⟩ = some (O ι b3) ∧ w'.cell? ⟨w.heap.size, 9, none⟩ = some (O ι off) ∧ w'.cell? ⟨w.heap.size, 11, none⟩ = some (O ι dt)) (first | with_reducible exact SA.out | with_reducible exact SB.out | exact SA.out | exact SB.out | exact HS.out _ (HB2.out.alloc HB2.out.size _)) (first | (go_at_call 62; refine (hd.out _).mono ?_; rintro e w2 ⟨rfl, b2⟩; have HB2 := hide (Bel.tr HB0.out b2); have SB := hide (HS.out w2 HB2.out); clear b2) | (go_at_call 25; refine (zn2 _ _ _).mono ?_; rintro e w' ⟨rfl, rfl⟩) | (go_at_call 63; refine (zu2 _ _ _ _).mono ?_; rintro e w' ⟨rfl, rfl⟩; rw [Hcc.out]) | (go_at_call 24; refine (zv1 (xs := [9, 0]) (zn6 _ _ _ _) (by simp)).mono ?_; rintro e w' ⟨rfl, rfl⟩))
  go_wp2
  go_ret
  exact ⟨rfl, Bel.tr X0.out (HB2.out.alloc HB2.out.size _)⟩
 ·go_enter Tryz.func27, Tryz.ntmps27
  go_wp2_with fail
  generalize w.alloc (χ #[O ι xs.length, O ι a0, O ι a1, O ι a2, O ι a3, O ι b0, O ι b1, O ι b2, O ι b3, O ι off, O ι st, O ι dt, u] 67) = W1 at HS X0 ⊢
  have HB0 : Hid (Bel W1 W1.drew) := (Below.refl _ _).drew
  have SA := hide (HS.out W1.drew HB0.out)
  go_region_held3 (fun w' => w'.cell? ⟨w.heap.size, 0, none⟩ = some (O ι xs.length) ∧ w'.cell? ⟨w.heap.size, 1, none⟩ = some (O ι a0) ∧ w'.cell? ⟨w.heap.size, 2, none⟩ = some (O ι a1) ∧ w'.cell? ⟨w.heap.size, 3, none⟩ = some (O ι a2) ∧ w'.cell? ⟨w.heap.size, 4, none⟩ = some (O ι a3) ∧ w'.cell? ⟨w.heap.size, 5, none⟩ = some (O ι b0) ∧ w'.cell? ⟨w.heap.size, 6, none⟩ = some (O ι b1) ∧ w'.cell? ⟨w.heap.size, 7, none⟩ = some (O ι b2) ∧ w'.cell? ⟨w.heap.size, 8, none⟩ = some (O ι b3) ∧ w'.cell? ⟨w.heap.size, 9, none⟩ = some (O ι off) ∧ w'.cell? ⟨w.heap.size, 11, none⟩ = some (O ι dt)) (first | with_reducible exact SA.out | with_reducible exact SB.out | exact SA.out | exact SB.out | exact HS.out _ (HB2.out.alloc HB2.out.size _)) (first | (go_at_call 62; refine (hd.out _).mono ?_; rintro e w2 ⟨rfl, b2⟩; have HB2 := hide (Bel.tr HB0.out b2); have SB := hide (HS.out w2 HB2.out); clear b2) | (go_at_call 25; refine (zn2 _ _ _).mono ?_; rintro e w' ⟨rfl, rfl⟩) | (go_at_call 63; refine (zu2 _ _ _ _).mono ?_; rintro e w' ⟨rfl, rfl⟩; rw [Hcc.out]) | (go_at_call 24; refine (zv1 (xs := [0, 10]) (zn6 _ _ _ _) (by simp)).mono ?_; rintro e w' ⟨rfl, rfl⟩))
  go_wp2
  go_ret
  exact ⟨rfl, Bel.tr X0.out (HB2.out.alloc HB2.out.size _)⟩
 ·go_enter Tryz.func27, Tryz.ntmps27
  go_wp2_with fail
  generalize w.alloc (χ #[O ι xs.length, O ι a0, O ι a1, O ι a2, O ι a3, O ι b0, O ι b1, O ι b2, O ι b3, O ι off, O ι st, O ι dt, u] 67) = W1 at HS X0 ⊢
  have HB0 : Hid (Bel W1 W1.drew) := (Below.refl _ _).drew
  have SA := hide (HS.out W1.drew HB0.out)
  go_region_held3 (fun w' => w'.cell? ⟨w.heap.size, 0, none⟩ = some (O ι xs.length) ∧ w'.cell? ⟨w.heap.size, 1, none⟩ = some (O ι a0) ∧ w'.cell? ⟨w.heap.size, 2, none⟩ = some (O ι a1) ∧ w'.cell? ⟨w.heap.size, 3, none⟩ = some (O ι a2) ∧ w'.cell? ⟨w.heap.size, 4, none⟩ = some (O ι a3) ∧ w'.cell? ⟨w.heap.size, 5, none⟩ = some (O ι b0) ∧ w'.cell? ⟨w.heap.size, 6, none⟩ = some (O ι b1) ∧ w'.cell? ⟨w.heap.size, 7, none⟩ = some (O ι b2) ∧ w'.cell? ⟨w.heap.size, 8, none⟩ = some (O ι b3) ∧ w'.cell? ⟨w.heap.size, 9, none⟩ = some (O ι off) ∧ w'.cell? ⟨w.heap.size, 11, none⟩ = some (O ι dt)) (first | with_reducible exact SA.out | with_reducible exact SB.out | exact SA.out | exact SB.out | exact HS.out _ (HB2.out.alloc HB2.out.size _)) (first | (go_at_call 62; refine (hd.out _).mono ?_; rintro e w2 ⟨rfl, b2⟩; have HB2 := hide (Bel.tr HB0.out b2); have SB := hide (HS.out w2 HB2.out); clear b2) | (go_at_call 25; refine (zn2 _ _ _).mono ?_; rintro e w' ⟨rfl, rfl⟩) | (go_at_call 63; refine (zu2 _ _ _ _).mono ?_; rintro e w' ⟨rfl, rfl⟩; rw [Hcc.out]) | (go_at_call 24; refine (zv1 (xs := [0, 0]) (zn6 _ _ _ _) (by simp)).mono ?_; rintro e w' ⟨rfl, rfl⟩))
  go_wp2
  go_ret
  exact ⟨rfl, Bel.tr X0.out (HB2.out.alloc HB2.out.size _)⟩
end
end Go.Proofs.YtjbbodfdpbcnhaaGreat
