import Derived.Test.YtfhcpicddegblaaGreatM12
import Derived.Test.YtfhcpicddegblaaGreatM11
import Derived.Test.YtfhcpicddegblaaGreatM7
import Derived.Laws.EntriesVeiled
set_option linter.unusedSimpArgs false
set_option linter.unusedVariables false
set_option maxRecDepth 100000
set_option maxHeartbeats 8000000
namespace Go.Proofs.YtfhcpicddegblaaGreat
section
open Go.ChangeShapes Go.RowKit Go.Shelf FL
attribute [local go_sem] Oper.semAt_some
def KpO (w : World) (cB gB : Nat) (W : World) : Prop := ∀ c ob, c ≠ cB → c ≠ gB → w.heap[c]? = some ob → ob.isCells = true → W.heap[c]? = some ob
theorem KpO.cell {w : World} {cB gB : Nat} {W : World} (h : KpO w cB gB W) {c o : Nat} {x : Value} (h1 : c ≠ cB) (h2 : c ≠ gB) (hx : w.cell? ⟨c, o, none⟩ = some x) : W.cell? ⟨c, o, none⟩ = some x := by
 obtain ⟨ob, q1, q2⟩ := cells_of_cell hx
 exact (World.cell?_of_block (w := w) (a := ⟨c, o, none⟩) ((h c ob h1 h2 q1 q2).trans q1.symm)).trans hx
theorem KpO.frozen {w : World} {cB gB : Nat} {W : World} (h : KpO w cB gB W) {c o : Nat} {x : Value} (h1 : c ≠ cB) (h2 : c ≠ gB) (hx : w.cell? ⟨c, o, none⟩ = some x) (q : Nat) : W.frozen? ⟨c, q, none⟩ = w.frozen? ⟨c, q, none⟩ := by
 obtain ⟨ob, q1, q2⟩ := cells_of_cell hx
 exact World.frozen?_of_block (w := w) (a := ⟨c, q, none⟩) ((h c ob h1 h2 q1 q2).trans q1.symm)
def ElnOk (w : World) (cB gB base n : Nat) (Z : List C3) (e : Ending) (w' : World) : Prop := e = .returned (.tuple #[]) ∧ ∃ rv, w'.cell? ⟨cB, 0, none⟩ = some rv ∧ w'.ownsRow base 66 3 rv n (flat Z) ∧ KpO w cB gB w' ∧ w.heap.size ≤ w'.heap.size ∧ ∀ lo, lo ≤ cB → lo ≤ base → lo ≤ w.heap.size → Below lo w w'
theorem zt11 (n : Nat) (hn : 6 ≤ n) (xs sv : List Int) (off st dt0 : Int) (ax K : Nat) {w : World} {su : Option Addr} {cu cB oB gB cap0 gf base : Nat} {cb : Array Value} {cs : List C3} {dt : Int} {out : (Nat → C3) → Nat → C3} (hcv : CV w (.slice su cs.length cu) cs) (hlc : cs.length ≤ 1048576) (hv : ValidV xs sv off) (hin : ∀ p ∈ offsL xs sv off, p < (cs.length : Int)) (hax : ax < xs.length) (hKx : xs.getD ax 0 = (K : Int))
  (hokc : ∀ p ∈ offsL xs sv off, OkC dt (cs.getD p.toNat k0)) (hbox : w.cell? ⟨cB, 0, none⟩ = some (.slice (some ⟨gB, 0, none⟩) 0 cap0)) (hfz : w.frozen? ⟨cB, 0, none⟩ = false) (hown : w.ownsRow base 66 3 (.slice (some ⟨gB, 0, none⟩) 0 cap0) 0 []) (hgc : gB ≠ cB) (hgo : gB ≠ oB) (hobx : w.cell? ⟨oB, 0, none⟩ = some (.func (.func gf) #[] cb)) (hoc : oB ≠ cB)
  (eg : ∀ args w, (callFunc gf args).run Tryz.prog w = .ok (.enter gf args) w) (hcong : ∀ f g : Nat → C3, (∀ i, i < K → f i = g i) → ∀ i, i < K → out f i = out g i) (hof : ∀ bc, w.heap.size ≤ bc → OfK gf cb bc K dt out (KpO w cB gB)) :
  CallsIn Fence.wide n Tryz.prog 41 #[.agg #[.int .i64 xs.length, .int .i64 (xs.getD 0 0), .int .i64 (xs.getD 1 0), .int .i64 (xs.getD 2 0), .int .i64 (xs.getD 3 0), .int .i64 (sv.getD 0 0), .int .i64 (sv.getD 1 0), .int .i64 (sv.getD 2 0), .int .i64 (sv.getD 3 0), .int .i64 off, .int .i64 st, .int .i64 dt0, .slice su cs.length cu], .int .i64 ax, .func (.func 99) #[] #[.pointer (some ⟨cB, 0, none⟩), .pointer (some ⟨oB, 0, none⟩)]] w fun e w' => ElnOk w cB gB base (plen (xs.eraseIdx ax) * K) (ZL out ((offsL (mvL ax xs) (mvL ax sv) off).map fun p => cs.getD p.toNat k0) K (plen (xs.eraseIdx ax))) e w' := by
 have hdd : ∀ k : Nat, (Fence.wide.depth.isSome = true → 1 ≤ k) := fun k h => by cases h
 have hx4 := hv.1.1
 have hnn : ∀ m ∈ xs, 0 ≤ m := fun m hm => (zu hv.1 m hm).1
 have hpp := zr hnn
 have hRK : plen xs = plen (xs.eraseIdx ax) * K := by rw [zi2 ax xs hax, hKx]; rfl
 have hcnt := hide (fun W => zq2 W xs hv.1.1 hv.1.2.1)
 unfold shp at hcnt
 have hsB := zj hbox
 have hoB := zj hobx
 have hgB := (hown.lt gB rfl)
 by_cases hz : prod xs = 0
 ·have h0 : plen (xs.eraseIdx ax) * K = 0 := by omega
  have HE : Hid (∀ W, Ext w W → ElnOk w cB gB base (plen (xs.eraseIdx ax) * K) (ZL out ((offsL (mvL ax xs) (mvL ax sv) off).map fun p => cs.getD p.toNat k0) K (plen (xs.eraseIdx ax))) (.returned (.tuple #[])) W) := fun W x => by
   refine ⟨rfl, _, x.box hbox, ?_, fun c ob _ _ hb _ => (x.bl.block c (Array.getElem?_eq_some_iff.1 hb).1).trans hb, x.bl.size, fun lo _ _ hlo => x.bl.mono hlo⟩
   unfold ZL
   rw [h0]
   exact zk3 hown x.bl
  rw [hz] at hcnt
  clear hin hokc hof hcong hRK hpp
  generalize xs.getD 0 0 = a0 at *
  generalize xs.getD 1 0 = a1 at *
  generalize xs.getD 2 0 = a2 at *
  generalize xs.getD 3 0 = a3 at *
  generalize sv.getD 0 0 = s0' at *
  generalize sv.getD 1 0 = s1 at *
  generalize sv.getD 2 0 = s2 at *
  generalize sv.getD 3 0 = s3 at *
  have x0 : Ext w ((w.alloc (.cells #[.int .i64 xs.length, .int .i64 a0, .int .i64 a1, .int .i64 a2, .int .i64 a3, .int .i64 s0', .int .i64 s1, .int .i64 s2, .int .i64 s3, .int .i64 off, .int .i64 st, .int .i64 dt0, .slice su cs.length cu] 85)).alloc (.cells #[.func (.func 99) #[] #[.pointer (some ⟨cB, 0, none⟩), .pointer (some ⟨oB, 0, none⟩)]] 96)) := ((Ext.refl w).alloc _ _).alloc _ _
  have x1 : Ext (w.alloc (.cells #[.int .i64 xs.length, .int .i64 a0, .int .i64 a1, .int .i64 a2, .int .i64 a3, .int .i64 s0', .int .i64 s1, .int .i64 s2, .int .i64 s3, .int .i64 off, .int .i64 st, .int .i64 dt0, .slice su cs.length cu] 85)) ((w.alloc (.cells #[.int .i64 xs.length, .int .i64 a0, .int .i64 a1, .int .i64 a2, .int .i64 a3, .int .i64 s0', .int .i64 s1, .int .i64 s2, .int .i64 s3, .int .i64 off, .int .i64 st, .int .i64 dt0, .slice su cs.length cu] 85)).alloc (.cells #[.func (.func 99) #[] #[.pointer (some ⟨cB, 0, none⟩), .pointer (some ⟨oB, 0, none⟩)]] 96)) := (Ext.refl _).alloc _ _
  have ka : ∀ j x, #[.int .i64 xs.length, .int .i64 a0, .int .i64 a1, .int .i64 a2, .int .i64 a3, .int .i64 s0', .int .i64 s1, .int .i64 s2, .int .i64 s3, .int .i64 off, .int .i64 st, .int .i64 dt0, .slice su cs.length cu][j]? = some x → (((w.alloc (.cells #[.int .i64 xs.length, .int .i64 a0, .int .i64 a1, .int .i64 a2, .int .i64 a3, .int .i64 s0', .int .i64 s1, .int .i64 s2, .int .i64 s3, .int .i64 off, .int .i64 st, .int .i64 dt0, .slice su cs.length cu] 85)).alloc (.cells #[.func (.func 99) #[] #[.pointer (some ⟨cB, 0, none⟩), .pointer (some ⟨oB, 0, none⟩)]] 96))).cell? ⟨w.heap.size, j, none⟩ = some x := fun j x hx => x1.box ((ze w #[.int .i64 xs.length, .int .i64 a0, .int .i64 a1, .int .i64 a2, .int .i64 a3, .int .i64 s0', .int .i64 s1, .int .i64 s2, .int .i64 s3, .int .i64 off, .int .i64 st, .int .i64 dt0, .slice su cs.length cu] 85 w.heap.size rfl j).trans hx)
  have k0' := ka 0 _ rfl
  have k1' := ka 1 _ rfl
  have k2' := ka 2 _ rfl
  have k3' := ka 3 _ rfl
  have k4' := ka 4 _ rfl
  have X0 := hide x0
  clear ka x0 x1 hcv hv hown h0 hz hgB hbox hobx
  refine callsIn_of_wp_marks Tryz.func41 rfl trivial ?_ rfl
  simp only [Tryz.ntmps41, List.size_toArray, List.length_cons, List.length_nil, Nat.reduceAdd, Nat.reduceSub, Array.replicate_succ, Array.replicate_zero, List.push_toArray, List.append_toArray, List.nil_append, List.cons_append]
  gi_wp2
  refine ⟨trivial, hdd _, ?_⟩
  refine (callsIn_wide.2 (hcnt.out _)).mono ?_
  rintro e w3 ⟨rfl, hw3⟩
  have x3 : Ext ((w.alloc (.cells #[.int .i64 xs.length, .int .i64 a0, .int .i64 a1, .int .i64 a2, .int .i64 a3, .int .i64 s0', .int .i64 s1, .int .i64 s2, .int .i64 s3, .int .i64 off, .int .i64 st, .int .i64 dt0, .slice su cs.length cu] 85)).alloc (.cells #[.func (.func 99) #[] #[.pointer (some ⟨cB, 0, none⟩), .pointer (some ⟨oB, 0, none⟩)]] 96)) w3 := by rw [hw3]; exact (Ext.refl _).alloc _ _
  have HR := hide (HE.out w3 (X0.out.trans x3))
  clear hw3 x3 HE
  gi_wp2
  exact ⟨_, results_none rfl _ _ _, HR.out⟩
 ·have hpos : ∀ m ∈ xs, 1 ≤ m := fun m hm => (zd1 hv.1 hz m hm).1
  have hvm := zl9 hv hax
  have hinm : ∀ p ∈ offsL (mvL ax xs) (mvL ax sv) off, p < (cs.length : Int) := mv_in hv hax hin
  have hokm : ∀ p ∈ offsL (mvL ax xs) (mvL ax sv) off, OkC dt (cs.getD p.toNat k0) := mv_in hv hax hokc
  have hlx : (mvL ax xs).length = xs.length := zq3 hax
  have hKp : 0 < K := by have := zd2 hpos ax hax; omega
  have hK4 : K ≤ 4096 := by have := zd2 (fun m hm => zu hv.1 m hm) ax hax; omega
  have hR4 : plen (xs.eraseIdx ax) * K ≤ 4096 := by have := hv.1.2.2; omega
  have hRp : 0 < plen (xs.eraseIdx ax) * K := by have := zp4 xs hpos; omega
  have hrd := hide (fun W (hB : Bel w W) => readc_in (n - 1) (by omega) (mvL ax xs) (mvL ax sv) off st dt0 (hcv.keep hB) hlc hvm hinm)
  have hal := hide (fun W => zv8 W xs sv off ax hax hx4 hv.2.1)
  have hcl : ∀ j, j = 1 + ax → (#[.int .i64 xs.length, .int .i64 (xs.getD 0 0), .int .i64 (xs.getD 1 0), .int .i64 (xs.getD 2 0), .int .i64 (xs.getD 3 0), .int .i64 (sv.getD 0 0), .int .i64 (sv.getD 1 0), .int .i64 (sv.getD 2 0), .int .i64 (sv.getD 3 0), .int .i64 off, .int .i64 st, .int .i64 dt0, .slice su cs.length cu] : Array Value)[j]? = some (.int .i64 (K : Int)) := fun j hj => by
   subst hj
   rcases (show ax = 0 ∨ ax = 1 ∨ ax = 2 ∨ ax = 3 by omega) with rfl | rfl | rfl | rfl <;> rw [← hKx] <;> rfl
  obtain ⟨RL, hRL⟩ : ∃ RL, RL = (offsL (mvL ax xs) (mvL ax sv) off).map fun p => cs.getD p.toNat k0 := ⟨_, rfl⟩
  have hRLl : RL.length = plen (xs.eraseIdx ax) * K := by
   rw [hRL, List.length_map, (zu6 hv hax).1, zw hv]; omega
  have hRLo : Hid (∀ j, j < RL.length → OkC dt (RL.getD j k0)) := fun j hj => by
   have hj2 := hj
   rw [hRL, List.length_map] at hj2
   rw [hRL, List.getD_eq_getElem?_getD, List.getElem?_map, List.getElem?_eq_getElem hj2]
   exact hokm _ (List.getElem_mem hj2)
  rw [← hRL] at hrd ⊢
  unfold vw at hal
  rw [hlx] at hrd hal
  rw [hpp, hRK] at hcnt
  generalize hRq : plen (xs.eraseIdx ax) = R at *
  have HKR := hide hR4
  generalize hKq : R * K = KQ at *
  have HKQ := hide hKq
  have hzb : ((KQ : Int) == 0) = false := by rw [beq_eq_false_iff_ne]; omega
  have ha0 : (0 : Int) ≤ (ax : Int) := Int.natCast_nonneg _
  have ha4 : (ax : Int) < 4 := by omega
  clear hRL hRq hKq hRK hpp hnn hpos hvm hinm hokm hokc hin hlx hz hv
  generalize xs.getD 0 0 = a0 at *
  generalize xs.getD 1 0 = a1 at *
  generalize xs.getD 2 0 = a2 at *
  generalize xs.getD 3 0 = a3 at *
  generalize sv.getD 0 0 = s0' at *
  generalize sv.getD 1 0 = s1 at *
  generalize sv.getD 2 0 = s2 at *
  generalize sv.getD 3 0 = s3 at *
  generalize (mvL ax xs).getD 0 0 = m0 at *
  generalize (mvL ax xs).getD 1 0 = m1 at *
  generalize (mvL ax xs).getD 2 0 = m2 at *
  generalize (mvL ax xs).getD 3 0 = m3 at *
  generalize (mvL ax sv).getD 0 0 = r0 at *
  generalize (mvL ax sv).getD 1 0 = r1 at *
  generalize (mvL ax sv).getD 2 0 = r2 at *
  generalize (mvL ax sv).getD 3 0 = r3 at *
  have x0 : Ext w ((w.alloc (.cells #[.int .i64 xs.length, .int .i64 a0, .int .i64 a1, .int .i64 a2, .int .i64 a3, .int .i64 s0', .int .i64 s1, .int .i64 s2, .int .i64 s3, .int .i64 off, .int .i64 st, .int .i64 dt0, .slice su cs.length cu] 85)).alloc (.cells #[.func (.func 99) #[] #[.pointer (some ⟨cB, 0, none⟩), .pointer (some ⟨oB, 0, none⟩)]] 96)) := ((Ext.refl w).alloc _ _).alloc _ _
  have x1 : Ext (w.alloc (.cells #[.int .i64 xs.length, .int .i64 a0, .int .i64 a1, .int .i64 a2, .int .i64 a3, .int .i64 s0', .int .i64 s1, .int .i64 s2, .int .i64 s3, .int .i64 off, .int .i64 st, .int .i64 dt0, .slice su cs.length cu] 85)) ((w.alloc (.cells #[.int .i64 xs.length, .int .i64 a0, .int .i64 a1, .int .i64 a2, .int .i64 a3, .int .i64 s0', .int .i64 s1, .int .i64 s2, .int .i64 s3, .int .i64 off, .int .i64 st, .int .i64 dt0, .slice su cs.length cu] 85)).alloc (.cells #[.func (.func 99) #[] #[.pointer (some ⟨cB, 0, none⟩), .pointer (some ⟨oB, 0, none⟩)]] 96)) := (Ext.refl _).alloc _ _
  have ka : ∀ j x, #[.int .i64 xs.length, .int .i64 a0, .int .i64 a1, .int .i64 a2, .int .i64 a3, .int .i64 s0', .int .i64 s1, .int .i64 s2, .int .i64 s3, .int .i64 off, .int .i64 st, .int .i64 dt0, .slice su cs.length cu][j]? = some x → (((w.alloc (.cells #[.int .i64 xs.length, .int .i64 a0, .int .i64 a1, .int .i64 a2, .int .i64 a3, .int .i64 s0', .int .i64 s1, .int .i64 s2, .int .i64 s3, .int .i64 off, .int .i64 st, .int .i64 dt0, .slice su cs.length cu] 85)).alloc (.cells #[.func (.func 99) #[] #[.pointer (some ⟨cB, 0, none⟩), .pointer (some ⟨oB, 0, none⟩)]] 96))).cell? ⟨w.heap.size, j, none⟩ = some x := fun j x hx => x1.box ((ze w #[.int .i64 xs.length, .int .i64 a0, .int .i64 a1, .int .i64 a2, .int .i64 a3, .int .i64 s0', .int .i64 s1, .int .i64 s2, .int .i64 s3, .int .i64 off, .int .i64 st, .int .i64 dt0, .slice su cs.length cu] 85 w.heap.size rfl j).trans hx)
  have kf : (((w.alloc (.cells #[.int .i64 xs.length, .int .i64 a0, .int .i64 a1, .int .i64 a2, .int .i64 a3, .int .i64 s0', .int .i64 s1, .int .i64 s2, .int .i64 s3, .int .i64 off, .int .i64 st, .int .i64 dt0, .slice su cs.length cu] 85)).alloc (.cells #[.func (.func 99) #[] #[.pointer (some ⟨cB, 0, none⟩), .pointer (some ⟨oB, 0, none⟩)]] 96))).cell? ⟨w.heap.size + 1, 0, none⟩ = some (.func (.func 99) #[] #[.pointer (some ⟨cB, 0, none⟩), .pointer (some ⟨oB, 0, none⟩)]) := ze (w.alloc (.cells #[.int .i64 xs.length, .int .i64 a0, .int .i64 a1, .int .i64 a2, .int .i64 a3, .int .i64 s0', .int .i64 s1, .int .i64 s2, .int .i64 s3, .int .i64 off, .int .i64 st, .int .i64 dt0, .slice su cs.length cu] 85)) #[.func (.func 99) #[] #[.pointer (some ⟨cB, 0, none⟩), .pointer (some ⟨oB, 0, none⟩)]] 96 (w.heap.size + 1) (by simp) 0
  have hs2 : (((w.alloc (.cells #[.int .i64 xs.length, .int .i64 a0, .int .i64 a1, .int .i64 a2, .int .i64 a3, .int .i64 s0', .int .i64 s1, .int .i64 s2, .int .i64 s3, .int .i64 off, .int .i64 st, .int .i64 dt0, .slice su cs.length cu] 85)).alloc (.cells #[.func (.func 99) #[] #[.pointer (some ⟨cB, 0, none⟩), .pointer (some ⟨oB, 0, none⟩)]] 96))).heap.size = w.heap.size + 2 := by simp
  have HKA := hide ka
  have HKF := hide kf
  have X0 := hide x0
  have HS2 := hide hs2
  have k0' := ka 0 _ rfl
  have k1' := ka 1 _ rfl
  have k2' := ka 2 _ rfl
  have k3' := ka 3 _ rfl
  have k4' := ka 4 _ rfl
  have HBX := hide hbox
  have HOX := hide hobx
  have HOW := hide hown
  have HOF := hide hof
  have HCG := hide hcong
  have HCL := hide hcl
  clear ka kf x0 x1 hs2 hcv hown hbox hobx hof hcong hcl hKx
  refine callsIn_of_wp_marks Tryz.func41 rfl trivial ?_ rfl
  simp only [Tryz.ntmps41, List.size_toArray, List.length_cons, List.length_nil, Nat.reduceAdd, Nat.reduceSub, Array.replicate_succ, Array.replicate_zero, List.push_toArray, List.append_toArray, List.nil_append, List.cons_append]
  gi_wp2
  refine ⟨trivial, hdd _, ?_⟩
  refine (callsIn_wide.2 (hcnt.out _)).mono ?_
  rintro e w3 ⟨rfl, hw3⟩
  have x3 : Ext ((w.alloc (.cells #[.int .i64 xs.length, .int .i64 a0, .int .i64 a1, .int .i64 a2, .int .i64 a3, .int .i64 s0', .int .i64 s1, .int .i64 s2, .int .i64 s3, .int .i64 off, .int .i64 st, .int .i64 dt0, .slice su cs.length cu] 85)).alloc (.cells #[.func (.func 99) #[] #[.pointer (some ⟨cB, 0, none⟩), .pointer (some ⟨oB, 0, none⟩)]] 96)) w3 := by rw [hw3]; exact (Ext.refl _).alloc _ _
  have X3 := hide (X0.out.trans x3)
  have HK3 : Hid (∀ j x, #[.int .i64 xs.length, .int .i64 a0, .int .i64 a1, .int .i64 a2, .int .i64 a3, .int .i64 s0', .int .i64 s1, .int .i64 s2, .int .i64 s3, .int .i64 off, .int .i64 st, .int .i64 dt0, .slice su cs.length cu][j]? = some x → w3.cell? ⟨w.heap.size, j, none⟩ = some x) := fun j x hx => x3.box (HKA.out j x hx)
  have HF3 := hide (x3.box HKF.out)
  have cl := HK3.out (1 + ax) _ (HCL.out _ rfl)
  have c0 := HK3.out 0 _ rfl
  have c1 := HK3.out 1 _ rfl
  have c2 := HK3.out 2 _ rfl
  have c3 := HK3.out 3 _ rfl
  have c4 := HK3.out 4 _ rfl
  have c5 := HK3.out 5 _ rfl
  have c6 := HK3.out 6 _ rfl
  have c7 := HK3.out 7 _ rfl
  have c8 := HK3.out 8 _ rfl
  have c9 := HK3.out 9 _ rfl
  have c10 := HK3.out 10 _ rfl
  have c11 := HK3.out 11 _ rfl
  have c12 := HK3.out 12 _ rfl
  clear hw3 hcnt k0' k1' k2' k3' k4' x3 HKA HKF HCL
  gi_wp2
  refine ⟨trivial, hdd _, ?_⟩
  refine (callsIn_wide.2 (hal.out w3)).mono ?_
  rintro e w4 ⟨rfl, x4⟩
  have X4 := hide (X3.out.trans x4)
  have HF4 := hide (x4.box HF3.out)
  have HK4 : Hid (∀ j x, #[.int .i64 xs.length, .int .i64 a0, .int .i64 a1, .int .i64 a2, .int .i64 a3, .int .i64 s0', .int .i64 s1, .int .i64 s2, .int .i64 s3, .int .i64 off, .int .i64 st, .int .i64 dt0, .slice su cs.length cu][j]? = some x → w4.cell? ⟨w.heap.size, j, none⟩ = some x) := fun j x hx => x4.box (HK3.out j x hx)
  clear cl hal HK3 HF3 x4 c0 c1 c2 c3 c4 c5 c6 c7 c8 c9 c10 c11 c12
  have c0 := HK4.out 0 _ rfl
  have c1 := HK4.out 1 _ rfl
  have c2 := HK4.out 2 _ rfl
  have c3 := HK4.out 3 _ rfl
  have c4 := HK4.out 4 _ rfl
  have c5 := HK4.out 5 _ rfl
  have c6 := HK4.out 6 _ rfl
  have c7 := HK4.out 7 _ rfl
  have c8 := HK4.out 8 _ rfl
  have c9 := HK4.out 9 _ rfl
  have c10 := HK4.out 10 _ rfl
  have c11 := HK4.out 11 _ rfl
  have c12 := HK4.out 12 _ rfl
  have fz := fun (q : Nat) => X4.out.unfrozen (b := w.heap.size) (Nat.le_refl _) q
  have f0 := fz 0
  have f1 := fz 1
  have f2 := fz 2
  have f3 := fz 3
  have f4 := fz 4
  have f5 := fz 5
  have f6 := fz 6
  have f7 := fz 7
  have f8 := fz 8
  have f9 := fz 9
  clear fz
  have HST : Hid (MuB w.heap.size w4 ((((((((((w4.setCell ⟨w.heap.size, 0, none⟩ (.int .i64 xs.length)).setCell ⟨w.heap.size, 1, none⟩ (.int .i64 m0)).setCell ⟨w.heap.size, 2, none⟩ (.int .i64 m1)).setCell ⟨w.heap.size, 3, none⟩ (.int .i64 m2)).setCell ⟨w.heap.size, 4, none⟩ (.int .i64 m3)).setCell ⟨w.heap.size, 5, none⟩ (.int .i64 r0)).setCell ⟨w.heap.size, 6, none⟩ (.int .i64 r1)).setCell ⟨w.heap.size, 7, none⟩ (.int .i64 r2)).setCell ⟨w.heap.size, 8, none⟩ (.int .i64 r3)).setCell ⟨w.heap.size, 9, none⟩ (.int .i64 off))) := stL_mu w4 w.heap.size 0 [.int .i64 xs.length, .int .i64 m0, .int .i64 m1, .int .i64 m2, .int .i64 m3, .int .i64 r0, .int .i64 r1, .int .i64 r2, .int .i64 r3, .int .i64 off]
  have HSC : Hid (∀ q v, [.int .i64 xs.length, .int .i64 m0, .int .i64 m1, .int .i64 m2, .int .i64 m3, .int .i64 r0, .int .i64 r1, .int .i64 r2, .int .i64 r3, .int .i64 off][q]? = some v → (((((((((((w4.setCell ⟨w.heap.size, 0, none⟩ (.int .i64 xs.length)).setCell ⟨w.heap.size, 1, none⟩ (.int .i64 m0)).setCell ⟨w.heap.size, 2, none⟩ (.int .i64 m1)).setCell ⟨w.heap.size, 3, none⟩ (.int .i64 m2)).setCell ⟨w.heap.size, 4, none⟩ (.int .i64 m3)).setCell ⟨w.heap.size, 5, none⟩ (.int .i64 r0)).setCell ⟨w.heap.size, 6, none⟩ (.int .i64 r1)).setCell ⟨w.heap.size, 7, none⟩ (.int .i64 r2)).setCell ⟨w.heap.size, 8, none⟩ (.int .i64 r3)).setCell ⟨w.heap.size, 9, none⟩ (.int .i64 off))).cell? ⟨w.heap.size, q, none⟩ = some v) := fun q v hq => by
   have := zs14 w4 w.heap.size 0 [.int .i64 xs.length, .int .i64 m0, .int .i64 m1, .int .i64 m2, .int .i64 m3, .int .i64 r0, .int .i64 r1, .int .i64 r2, .int .i64 r3, .int .i64 off] (fun q _ h2 => by
    simp only [List.length_cons, List.length_nil] at h2
    rcases (show q = 0 ∨ q = 1 ∨ q = 2 ∨ q = 3 ∨ q = 4 ∨ q = 5 ∨ q = 6 ∨ q = 7 ∨ q = 8 ∨ q = 9 by omega) with rfl | rfl | rfl | rfl | rfl | rfl | rfl | rfl | rfl | rfl
    ·exact ⟨_, c0⟩
    ·exact ⟨_, c1⟩
    ·exact ⟨_, c2⟩
    ·exact ⟨_, c3⟩
    ·exact ⟨_, c4⟩
    ·exact ⟨_, c5⟩
    ·exact ⟨_, c6⟩
    ·exact ⟨_, c7⟩
    ·exact ⟨_, c8⟩
    ·exact ⟨_, c9⟩) q v hq
   rw [Nat.zero_add] at this
   exact this
  have HSL : Hid (∀ q, 10 ≤ q → (((((((((((w4.setCell ⟨w.heap.size, 0, none⟩ (.int .i64 xs.length)).setCell ⟨w.heap.size, 1, none⟩ (.int .i64 m0)).setCell ⟨w.heap.size, 2, none⟩ (.int .i64 m1)).setCell ⟨w.heap.size, 3, none⟩ (.int .i64 m2)).setCell ⟨w.heap.size, 4, none⟩ (.int .i64 m3)).setCell ⟨w.heap.size, 5, none⟩ (.int .i64 r0)).setCell ⟨w.heap.size, 6, none⟩ (.int .i64 r1)).setCell ⟨w.heap.size, 7, none⟩ (.int .i64 r2)).setCell ⟨w.heap.size, 8, none⟩ (.int .i64 r3)).setCell ⟨w.heap.size, 9, none⟩ (.int .i64 off))).cell? ⟨w.heap.size, q, none⟩ = w4.cell? ⟨w.heap.size, q, none⟩) := fun q hq => zr14 w4 w.heap.size 0 [.int .i64 xs.length, .int .i64 m0, .int .i64 m1, .int .i64 m2, .int .i64 m3, .int .i64 r0, .int .i64 r1, .int .i64 r2, .int .i64 r3, .int .i64 off] q hq
  gi_wp2
  refine ⟨trivial, hdd _, ?_⟩
  generalize ((((((((((w4.setCell ⟨w.heap.size, 0, none⟩ (.int .i64 xs.length)).setCell ⟨w.heap.size, 1, none⟩ (.int .i64 m0)).setCell ⟨w.heap.size, 2, none⟩ (.int .i64 m1)).setCell ⟨w.heap.size, 3, none⟩ (.int .i64 m2)).setCell ⟨w.heap.size, 4, none⟩ (.int .i64 m3)).setCell ⟨w.heap.size, 5, none⟩ (.int .i64 r0)).setCell ⟨w.heap.size, 6, none⟩ (.int .i64 r1)).setCell ⟨w.heap.size, 7, none⟩ (.int .i64 r2)).setCell ⟨w.heap.size, 8, none⟩ (.int .i64 r3)).setCell ⟨w.heap.size, 9, none⟩ (.int .i64 off)) = W5 at HST HSC HSL ⊢
  have HBW : Hid (Bel w W5) := HST.out.below X4.out.bl (Nat.le_refl _)
  have HF5 := hide (HST.out.box (by omega) HF4.out)
  clear HST HSC HSL HK4 HF4 X3 c0 c1 c2 c3 c4 c5 c6 c7 c8 c9 c10 c11 c12 f0 f1 f2 f3 f4 f5 f6 f7 f8 f9
  refine (hrd.out W5 HBW.out).mono ?_
  rintro e w6 ⟨sa, cap, rfl, hO, hB6, hcap⟩
  rcases hO with hO | ⟨bc, rfl, hbc, hrow, hbfz⟩
  ·rw [hO] at hRLl; simp at hRLl; omega
  have F6 := hide (Bel.box hB6 HF5.out)
  have HB6 := hide (Bel.tr HBW.out hB6)
  have HR6 := hide hrow
  have HZ6 := hide hbfz
  have hs6 : w.heap.size + 2 ≤ w6.heap.size := by have := zj F6.out; omega
  have hs5 : w.heap.size + 2 ≤ W5.heap.size := by have := zj HF5.out; omega
  have hbc6 : bc < w6.heap.size := zj (hrow 0 (by omega)).1
  rw [hRLl] at hcap
  clear hrow hB6 hrd hbfz HF5 X0 HS2 X4
  rw [hRLl]
  gi_wp2
  refine ⟨trivial, hdd _, ?_⟩
  refine (chunkF_in _ _ _ _ K hKp hK4 _).mono ?_
  rintro e w' ⟨rfl, rfl⟩
  have h1 : 1 ≤ n := by omega
  gi_wp2
  have xv : Ext w6 ((w6.alloc (.cells #[.slice (some ⟨bc, 0, none⟩) KQ cap] 61)).alloc (.cells #[.int .i64 K] 3)) := ((Ext.refl w6).alloc _ _).alloc _ _
  have xv1 : Ext (w6.alloc (.cells #[.slice (some ⟨bc, 0, none⟩) KQ cap] 61)) ((w6.alloc (.cells #[.slice (some ⟨bc, 0, none⟩) KQ cap] 61)).alloc (.cells #[.int .i64 K] 3)) := (Ext.refl _).alloc _ _
  have hst2 := hide (zf14 (n - 1) w6.heap.size (w6.heap.size + 1) bc cap R K hKp (by rw [HKQ.out]; exact hR4) (by rw [HKQ.out]; exact hcap) ((w6.alloc (.cells #[.slice (some ⟨bc, 0, none⟩) KQ cap] 61)).alloc (.cells #[.int .i64 K] 3))
   (by rw [HKQ.out]; exact xv1.box (ze w6 #[.slice (some ⟨bc, 0, none⟩) KQ cap] 61 w6.heap.size rfl 0)) (ze (w6.alloc (.cells #[.slice (some ⟨bc, 0, none⟩) KQ cap] 61)) #[.int .i64 K] 3 (w6.heap.size + 1) (by simp) 0))
  have hsV : (((w6.alloc (.cells #[.slice (some ⟨bc, 0, none⟩) KQ cap] 61)).alloc (.cells #[.int .i64 K] 3))).heap.size = w6.heap.size + 2 := by simp
  have FV := hide (xv.box F6.out)
  have RV := hide (HR6.out.keep xv.bl)
  have BV := hide (Bel.tr HB6.out xv.bl)
  have ZV : Hid (∀ o, (((w6.alloc (.cells #[.slice (some ⟨bc, 0, none⟩) KQ cap] 61)).alloc (.cells #[.int .i64 K] 3))).frozen? ⟨bc, o, none⟩ = false) := fun o => (xv.fz _).trans (HZ6.out o)
  have hbv := Bel.box BV.out HBX.out
  have hov := Bel.box BV.out HOX.out
  have hfv : (((w6.alloc (.cells #[.slice (some ⟨bc, 0, none⟩) KQ cap] 61)).alloc (.cells #[.int .i64 K] 3))).frozen? ⟨cB, 0, none⟩ = false := (Below.frozen BV.out (p := ⟨cB, 0, none⟩) hsB).trans hfz
  have HFV := hide hfv
  have HBV := hide hbv
  have HOV := hide hov
  have HWV := hide (zk3 HOW.out BV.out)
  clear hfv xv xv1 F6 HR6 HB6 HZ6 hbv hov HBX HOX HOW
  generalize ((w6.alloc (.cells #[.slice (some ⟨bc, 0, none⟩) KQ cap] 61)).alloc (.cells #[.int .i64 K] 3)) = WV at *
  have I0 : Hid (EI WV cB oB bc gB base K R dt out RL [] WV) := by
   refine ⟨⟨_, [], fun j => RL.getD j k0, HBV.out, HWV.out, by simp, fun c hc => ?_, fun c hc => ?_, fun j hj => ?_, fun j hj => hRLo.out j (by rw [hRLl, ← HKQ.out]; exact hj), fun _ => ⟨fun j _ _ => rfl, by simp⟩⟩, HFV.out, ZV.out, fun _ _ _ _ _ h _ => h⟩
   ·simp only [Value.ownBlock] at hc
    injection hc with hc
    subst hc
    exact ⟨hgc, by omega, hgo⟩
   ·simp only [Value.ownBlock] at hc
    injection hc with hc
    exact Or.inl hc.symm
   ·exact RV.out j (by rw [hRLl, ← HKQ.out]; exact hj)
  refine wpIn_rangeFunc_ownF rfl h1 (gf := 122) (lb := #[.pointer (some ⟨w6.heap.size, 0, none⟩), .pointer (some ⟨w6.heap.size + 1, 0, none⟩)]) rfl trivial (enters_of Tryz.func122 (by kernel_rfl) rfl)
   hst2.out (fun h k => KB.trans h k) (fun W l o o' h1 h2 h3 h4 => kb_put W l o o' h1 h2 h3 h4) (Below.refl _ _) (fun _ => rfl)
   (fun pre W => EI WV cB oB bc gB base K R dt out RL (lnv pre) W ∧ Below (min cB (min base bc)) WV W)
   (fun _ _ _ => False)
   (OwnFrom.and (Own.from (fun (s : List (Ln R)) A B row hs hg hr => (EI.kept (L := lnv s) (by rw [HKQ.out]; exact hRp) hs hg hr : EI WV cB oB bc gB base K R dt out RL (lnv s) B)) _) (ownFrom_below (by omega) (by omega)))
   (fun _ _ _ _ _ hs _ _ => hs)
   ⟨I0.out, Below.refl _ _⟩
   (fun x => { tmps := #[.agg #[.int .i64 xs.length, .int .i64 a0, .int .i64 a1, .int .i64 a2, .int .i64 a3, .int .i64 s0', .int .i64 s1, .int .i64 s2, .int .i64 s3, .int .i64 off, .int .i64 st, .int .i64 dt0, .slice su cs.length cu], .int .i64 ax, .func (.func 99) #[] #[.pointer (some ⟨cB, 0, none⟩), .pointer (some ⟨oB, 0, none⟩)], .pointer (some ⟨w.heap.size, 0, none⟩), undef, .pointer (some ⟨w.heap.size + 1, 0, none⟩), .int .i64 K, .slice (some ⟨bc, x.1 * K * 3, none⟩) K K, .pointer (some ⟨w.heap.size, 0, none⟩), .pointer (some ⟨w.heap.size, 0, none⟩), .agg #[.int .i64 xs.length, .int .i64 a0, .int .i64 a1, .int .i64 a2, .int .i64 a3], .int .i64 KQ, .bool false, .int .i64 ax, .pointer (some ⟨w.heap.size, 0, none⟩), .pointer (some ⟨w.heap.size, 0, none⟩), .pointer (some ⟨w.heap.size, 1, none⟩), .pointer (some ⟨w.heap.size, 1 + ax, none⟩), .int .i64 K, .pointer (some ⟨w.heap.size, 0, none⟩), .agg #[.int .i64 xs.length, .int .i64 a0, .int .i64 a1, .int .i64 a2, .int .i64 a3, .int .i64 s0', .int .i64 s1, .int .i64 s2, .int .i64 s3, .int .i64 off], .int .i64 ax, .agg #[.int .i64 xs.length, .int .i64 m0, .int .i64 m1, .int .i64 m2, .int .i64 m3, .int .i64 r0, .int .i64 r1, .int .i64 r2, .int .i64 r3, .int .i64 off], .pointer (some ⟨w.heap.size, 0, none⟩), .agg #[.int .i64 xs.length, .int .i64 m0, .int .i64 m1, .int .i64 m2, .int .i64 m3, .int .i64 r0, .int .i64 r1, .int .i64 r2, .int .i64 r3, .int .i64 off, .int .i64 st, .int .i64 dt0, .slice su cs.length cu], .slice (some ⟨bc, 0, none⟩) KQ cap, .int .i64 K, .func (.func 122) #[] #[.pointer (some ⟨w6.heap.size, 0, none⟩), .pointer (some ⟨w6.heap.size + 1, 0, none⟩)], .slice (some ⟨bc, x.1 * K * 3, none⟩) K K, undef, undef, undef], defers := [] }) ?assign ?body ?done ?stop
  case assign =>
   intro l x W K hK
   gi_wp2
   exact hK
  case body =>
   rintro l pre ⟨x, hx⟩ W ⟨hI, hB⟩ hlen
   obtain ⟨rv, Zl, f, q1, q2, q3, q4, q5, q6, q7, q8⟩ := hI.ex
   have hsz : WV.heap.size ≤ W.heap.size := hB.size
   have hvf := hI.keep (w.heap.size + 1) 0 _ (by omega) (by omega) (by omega) (by omega) FV.out
   have hobx := hI.keep oB 0 _ (by omega) hoc (by omega) (Ne.symm hgo) HOV.out
   have hle : (x + 1) * K ≤ R * K := Nat.mul_le_mul_right K hx
   rw [Nat.add_mul, Nat.one_mul] at hle
   have hle2 : (pre.length + 1) * K ≤ R * K := Nat.mul_le_mul_right K hlen
   rw [Nat.add_mul, Nat.one_mul, HKQ.out] at hle2
   have hlane : CF W bc (x * K * 3) K (fun i => f (x * K + i)) := fun i hi => by
    have q := q6 (x * K + i) (by omega)
    rw [Nat.zero_add, Nat.add_mul] at q
    exact q
   have HS := hide (lanes1_any (base := base) eg (HOF.out bc (by omega)) (fun c ob h1 h2 hb hcl => have hc := (Array.getElem?_eq_some_iff.1 hb).1; hI.kb c ob h1 (by omega) h2 ((BV.out.block c hc).trans hb) hcl) hlane hI.fzb (fun i hi => q7 _ (by omega)) hKp hK4 q1 hI.fzc hobx q2 (by rw [q3, lnv_len]; omega) (by omega) q4 (by omega) (by omega))
   have HI := hide hI
   have HB := hide hB
   have Q1 := hide q1
   have Q2 := hide q2
   have Q3 := hide q3
   have Q4 := hide q4
   have Q5 := hide q5
   have Q6 := hide q6
   have Q7 := hide q7
   have Q8 := hide q8
   clear hI hB q1 q2 q3 q4 q5 q6 q7 q8 hlane hobx hle hle2
   gi_wp2
   refine ⟨trivial, hdd _, ?_⟩
   refine (CallsIn.inRound l (callsIn_wide.2 HS.out)).mono ?_
   rintro e W' ⟨rfl, s⟩
   have HEND : Hid (EI WV cB oB bc gB base K R dt out RL (lnv (pre ++ [⟨x, hx⟩])) W') := by
    have e1 : lnv (pre ++ [⟨x, hx⟩]) = lnv pre ++ [x] := by rw [zj5]; rfl
    show EI _ _ _ _ _ _ _ _ _ _ _ (lnv (pre ++ [⟨x, hx⟩])) _
    rw [e1]
    exact EI.step hKp hx HCG.out HI.out hsz Q3.out Q4.out Q5.out Q6.out Q7.out Q8.out s
   have HBE := hide (HB.out.trans (s.bl (min cB (min base bc)) (by omega) (by omega) (by omega)))
   have HKO : Hid (KeepsOthers W W') := ⟨s.size, fun k o hk ho => by
    have hkl := (Array.getElem?_eq_some_iff.1 hk).1
    refine (s.keep k hkl (fun e => ?_) (fun e => ?_) (fun e => ?_)).trans hk
    ·obtain ⟨ob, w1, w2⟩ := cells_of_cell Q1.out
     rw [e, w1] at hk
     injection hk with hk
     rw [hk, ho] at w2
     cases w2
    ·obtain ⟨ob, w1, w2⟩ := cells_of_cell (Q6.out 0 (by rw [HKQ.out]; exact hRp)).1
     rw [e, w1] at hk
     injection hk with hk
     rw [hk, ho] at w2
     cases w2
    ·rcases Q2.out.2 with ⟨w1, _⟩ | ⟨g', cap'', cur, w1, _, w3, _⟩
     ·rw [w1] at e; simp [Value.ownBlock] at e
     ·rw [w1] at e
      simp only [Value.ownBlock] at e
      injection e with e
      rw [← e, w3] at hk
      injection hk with hk
      rw [← hk] at ho
      simp [Obj.isCells] at ho⟩
   have HKB : Hid (KB (fun k => k = w6.heap.size ∨ k = w6.heap.size + 1) W W') := ⟨s.size, fun k o hk h1 _ => (s.keep k (Array.getElem?_eq_some_iff.1 h1).1 (by rcases hk with rfl | rfl <;> omega) (by rcases hk with rfl | rfl <;> omega) (fun e => by have := Q5.out k e; rcases hk with rfl | rfl <;> omega)).trans h1⟩
   clear s
   gi_wp2
   exact ⟨HKO.out, HKB.out, HEND.out, HBE.out⟩
  case done =>
   rintro D ys W hD hS ⟨hI, hB⟩ hKd
   have hI2 := EI.kept (by rw [HKQ.out]; exact hRp) hI (grownBy_putObj' W D (.deferred none)) (fun r e => by cases e; exact ⟨_, hKd, rfl⟩)
   have hBF : Below (min cB (min base bc)) WV (W.putObj D (.deferred none)) := hB.trans (belowK_b (w := WV) (by omega) W D _ _ (by omega) hKd rfl rfl)
   have HI2 := hide hI2
   have HBF := hide hBF
   clear hI hI2 hB hBF
   gi_wp2
   refine ⟨by simp, .inl ⟨_, _, rfl, run_takeDeferred hKd, ?_⟩⟩
   refine ⟨_, results_none rfl _ _ _, ?_⟩
   have hI2 := HI2.out
   rw [show lnv ys = List.range R from hS] at hI2
   obtain ⟨rv, Zl, f, q1, q2, q3, q4, q5, q6, q7, q8⟩ := hI2.ex
   rw [List.length_range] at q3 q8
   have e := (q8 rfl).2
   rw [List.take_of_length_le (by rw [zs5]; exact Nat.le_refl _)] at e
   rw [q3, HKQ.out, e] at q2
   refine ⟨rfl, rv, q1, q2, fun c ob h1 h2 hb hcl => have hc := (Array.getElem?_eq_some_iff.1 hb).1; hI2.kb c ob h1 (by omega) h2 ((BV.out.block c hc).trans hb) hcl, Nat.le_trans BV.out.size HBF.out.size, fun lo h1 h2 h3 => (Below.mono BV.out h3).trans (Below.mono HBF.out (by omega))⟩
  case stop =>
   rintro D c pre W _ _ h _
   exact h.elim
end
section
open Go.ChangeShapes Go.RowKit Go.Shelf FL
attribute [local go_sem] Oper.semAt_some
structure HbX (w : World) (A B : List Value) (hv ov : Value) (W : World) : Prop where
 a : ∀ j x, A[j]? = some x → W.cell? ⟨w.heap.size, j, none⟩ = some x
 h : W.cell? ⟨w.heap.size + 1, 0, none⟩ = some hv
 g : ∀ j x, B[j]? = some x → W.cell? ⟨w.heap.size + 2, j, none⟩ = some x
 o : W.cell? ⟨w.heap.size + 3, 0, none⟩ = some ov
 r : W.cell? ⟨w.heap.size + 4, 0, none⟩ = some (.slice none 0 0)
 bl : Bel w W
 sz : w.heap.size + 5 ≤ W.heap.size
theorem HbX.keep {w : World} {A B : List Value} {hv ov : Value} {W W' : World} (h : HbX w A B hv ov W) (x : Bel W W') : HbX w A B hv ov W' :=
 ⟨fun j y hy => Bel.box x (h.a j y hy), Bel.box x h.h, fun j y hy => Bel.box x (h.g j y hy), Bel.box x h.o, Bel.box x h.r, Bel.tr h.bl x, Nat.le_trans h.sz x.size⟩
theorem HbX.start (w : World) (A B : List Value) (hv ov : Value) : HbX w A B hv ov (((((w.alloc (.cells A.toArray 85)).alloc (.cells #[hv] 34)).alloc (.cells B.toArray 85)).alloc (.cells #[ov] 113)).alloc (.cells #[.slice none 0 0] 34)) ∧ Ext w (((((w.alloc (.cells A.toArray 85)).alloc (.cells #[hv] 34)).alloc (.cells B.toArray 85)).alloc (.cells #[ov] 113)).alloc (.cells #[.slice none 0 0] 34)) := by
 have e0 := (((((Ext.refl w).alloc A.toArray 85).alloc #[hv] 34).alloc B.toArray 85).alloc #[ov] 113).alloc #[.slice none 0 0] 34
 have e1 := ((((Ext.refl (w.alloc (.cells A.toArray 85))).alloc #[hv] 34).alloc B.toArray 85).alloc #[ov] 113).alloc #[.slice none 0 0] 34
 have e2 := (((Ext.refl ((w.alloc (.cells A.toArray 85)).alloc (.cells #[hv] 34))).alloc B.toArray 85).alloc #[ov] 113).alloc #[.slice none 0 0] 34
 have e3 := ((Ext.refl (((w.alloc (.cells A.toArray 85)).alloc (.cells #[hv] 34)).alloc (.cells B.toArray 85))).alloc #[ov] 113).alloc #[.slice none 0 0] 34
 have e4 := (Ext.refl ((((w.alloc (.cells A.toArray 85)).alloc (.cells #[hv] 34)).alloc (.cells B.toArray 85)).alloc (.cells #[ov] 113))).alloc #[.slice none 0 0] 34
 exact ⟨⟨fun j x hx => e1.box ((ze w A.toArray 85 _ rfl j).trans (by simpa using hx)), e2.box (ze _ #[hv] 34 (w.heap.size + 1) (by simp) 0), fun j x hx => e3.box ((ze _ B.toArray 85 (w.heap.size + 2) (by simp) j).trans (by simpa using hx)), e4.box (ze _ #[ov] 113 (w.heap.size + 3) (by simp) 0), ze _ #[.slice none 0 0] 34 (w.heap.size + 4) (by simp) 0, e0.bl, by simp⟩, e0⟩
theorem HbX.kp {w : World} {A B : List Value} {hv ov : Value} {W W' : World} {cB gB : Nat} (h : HbX w A B hv ov W) (k : KpO W cB gB W') (h1 : w.heap.size + 5 ≤ cB) (h2 : w.heap.size + 5 ≤ gB) (hs : W.heap.size ≤ W'.heap.size) (b : Below w.heap.size W W') : HbX w A B hv ov W' := by
 have hz := h.sz
 exact ⟨fun j y hy => k.cell (by omega) (by omega) (h.a j y hy), k.cell (by omega) (by omega) h.h, fun j y hy => k.cell (by omega) (by omega) (h.g j y hy), k.cell (by omega) (by omega) h.o, k.cell (by omega) (by omega) h.r, Below.trans h.bl b, by omega⟩
def HbOk (w : World) (ss : List St) (m : Nat) (L : List Int) (Y : List C3) (e : Ending) (w' : World) : Prop := ∃ g cb, e = .returned (.agg #[.slice (some ⟨g, 0, none⟩) ss.length ss.length]) ∧ HOwn w' w.heap.size g cb (putT ss m L Y L.length) ∧ Bel w w'
theorem zt7 (n : Nat) (hn : 8 ≤ n) (xs sv svg : List Int) (off offg stg dtg fr to : Int) (m ax K : Nat) (u : Value) {w : World} {v : Value} {ss : List St} {su : Option Addr} {cu gf : Nat} {cb : Array Value} {cs Y : List C3} {dt : Int} {out : (Nat → C3) → Nat → C3} (h : SV w v ss) (hl : SL ss 1048576) (hm : m < ss.length) (hv : ValidV xs sv off) (hin : ∀ p ∈ offsL xs sv off, p < ((ss.getD m s0).2.length : Int))
  (hcs : CV w (.slice su cs.length cu) cs) (hlc : cs.length ≤ 1048576) (hvg : ValidV xs svg offg) (hing : ∀ p ∈ offsL xs svg offg, p < (cs.length : Int)) (hax : ax < xs.length) (hKx : xs.getD ax 0 = (K : Int)) (hokc : ∀ p ∈ offsL xs svg offg, OkC dt (cs.getD p.toNat k0))
  (eg : ∀ args w, (callFunc gf args).run Tryz.prog w = .ok (.enter gf args) w) (hcong : ∀ f g : Nat → C3, (∀ i, i < K → f i = g i) → ∀ i, i < K → out f i = out g i) (hof : ∀ W cB gB bc, Bel w W → w.heap.size ≤ cB → w.heap.size ≤ gB → W.heap.size ≤ bc → OfK gf cb bc K dt out (KpO W cB gB))
  (hcv : ∀ j, j < plen (xs.eraseIdx ax) * K → ∀ W, Calls Tryz.prog 125 #[.int .i64 fr, .int .i64 to, cellV ((ZL out ((offsL (mvL ax xs) (mvL ax svg) offg).map fun p => cs.getD p.toNat k0) K (plen (xs.eraseIdx ax))).getD j k0)] W fun e W' => e = .returned (cellV (Y.getD j k0)) ∧ Ext W W') :
  CallsIn Fence.wide n Tryz.prog 58 #[.agg #[.int .i64 xs.length, .int .i64 (xs.getD 0 0), .int .i64 (xs.getD 1 0), .int .i64 (xs.getD 2 0), .int .i64 (xs.getD 3 0), .int .i64 (sv.getD 0 0), .int .i64 (sv.getD 1 0), .int .i64 (sv.getD 2 0), .int .i64 (sv.getD 3 0), .int .i64 off, .int .i64 m, .int .i64 to, u], .agg #[v], .int .i64 fr, .agg #[.int .i64 xs.length, .int .i64 (xs.getD 0 0), .int .i64 (xs.getD 1 0), .int .i64 (xs.getD 2 0), .int .i64 (xs.getD 3 0), .int .i64 (svg.getD 0 0), .int .i64 (svg.getD 1 0), .int .i64 (svg.getD 2 0), .int .i64 (svg.getD 3 0), .int .i64 offg, .int .i64 stg, .int .i64 dtg, .slice su cs.length cu], .int .i64 ax, .func (.func gf) #[] cb] w fun e w' => HbOk w ss m (offsL (mvL ax xs) (mvL ax sv) off) Y e w' := by
 have hdd : ∀ k : Nat, (Fence.wide.depth.isSome = true → 1 ≤ k) := fun k h => by cases h
 obtain ⟨sa, cap, rfl, hsx⟩ := h
 have h : SV w (.slice sa ss.length cap) ss := ⟨sa, cap, rfl, hsx⟩
 have hx4 := hv.1.1
 have hnn : ∀ m ∈ xs, 0 ≤ m := fun m hm => (zu hv.1 m hm).1
 have hpp := zr hnn
 have hRK : plen xs = plen (xs.eraseIdx ax) * K := by rw [zi2 ax xs hax, hKx]; rfl
 have hR4 : plen (xs.eraseIdx ax) * K ≤ 4096 := by have := hv.1.2.2; omega
 have hcnt := hide (fun W => zq2 W xs hv.1.1 hv.1.2.1)
 unfold shp at hcnt
 rw [hpp, hRK] at hcnt
 have hvm := zl9 hv hax
 have hlx : (mvL ax xs).length = xs.length := zq3 hax
 have hol : (offsL (mvL ax xs) (mvL ax sv) off).length = plen (xs.eraseIdx ax) * K := by rw [(zu6 hv hax).1, zw hv]; omega
 have hal := hide (fun W => zv8 W xs sv off ax hax hx4 hv.2.1)
 unfold vw at hal
 rw [hlx] at hal
 obtain ⟨Z, hZ⟩ : ∃ Z, Z = ZL out ((offsL (mvL ax xs) (mvL ax svg) offg).map fun p => cs.getD p.toNat k0) K (plen (xs.eraseIdx ax)) := ⟨_, rfl⟩
 have hZl : Z.length = plen (xs.eraseIdx ax) * K := by rw [hZ, zs5]
 have hel := hide (fun (W : World) (x : Bel w W) cB gB cap0 base (h1 : W.cell? ⟨cB, 0, none⟩ = some (.slice (some ⟨gB, 0, none⟩) 0 cap0)) (h2 : W.frozen? ⟨cB, 0, none⟩ = false) (h3 : W.ownsRow base 66 3 (.slice (some ⟨gB, 0, none⟩) 0 cap0) 0 []) (h4 : gB ≠ cB) oB (h5 : gB ≠ oB) (h6 : W.cell? ⟨oB, 0, none⟩ = some (.func (.func gf) #[] cb)) (h7 : oB ≠ cB) (h8 : w.heap.size ≤ cB) (h9 : w.heap.size ≤ gB) => zt11 (n - 1) (by omega) xs svg offg stg dtg ax K (dt := dt) (out := out) (hcs.keep x) hlc hvg hing hax hKx hokc h1 h2 h3 h4 h5 h6 h7 eg hcong (fun bc hb => hof W cB gB bc x h8 h9 hb))
 rw [← hZ] at hel hcv
 have hw2 := hide (fun (W : World) (x : Bel w W) sx cx (hX : CV W (.slice sx Z.length cx) Z) => zi11 (n - 1) (by omega) (mvL ax xs) (mvL ax sv) off m u (Y := Y) (fr := fr) (to := to) (h.keep x) hl hm hvm (mv_in hv hax hin) hX (fun j hj => hcv j (by rw [← hZl]; exact hj)) (by rw [hol, hZl]; exact Nat.le_refl _) (by rw [hZl]; exact hR4))
 rw [hlx] at hw2
 have HOL := hide hol
 clear hZ hcs hvg hing hokc hcong hof hcv hin hvm hlx hnn hpp hRK hol hKx hv h hsx
 generalize plen (xs.eraseIdx ax) * K = KQ at *
 generalize offsL (mvL ax xs) (mvL ax sv) off = OL at *
 generalize xs.getD 0 0 = a0 at *
 generalize xs.getD 1 0 = a1 at *
 generalize xs.getD 2 0 = a2 at *
 generalize xs.getD 3 0 = a3 at *
 generalize sv.getD 0 0 = s0 at *
 generalize sv.getD 1 0 = s1 at *
 generalize sv.getD 2 0 = s2 at *
 generalize sv.getD 3 0 = s3 at *
 generalize svg.getD 0 0 = t0 at *
 generalize svg.getD 1 0 = t1 at *
 generalize svg.getD 2 0 = t2 at *
 generalize svg.getD 3 0 = t3 at *
 generalize (mvL ax xs).getD 0 0 = m0 at *
 generalize (mvL ax xs).getD 1 0 = m1 at *
 generalize (mvL ax xs).getD 2 0 = m2 at *
 generalize (mvL ax xs).getD 3 0 = m3 at *
 generalize (mvL ax sv).getD 0 0 = r0 at *
 generalize (mvL ax sv).getD 1 0 = r1 at *
 generalize (mvL ax sv).getD 2 0 = r2 at *
 generalize (mvL ax sv).getD 3 0 = r3 at *
 obtain ⟨HB0, X0⟩ := HbX.start w [.int .i64 xs.length, .int .i64 a0, .int .i64 a1, .int .i64 a2, .int .i64 a3, .int .i64 s0, .int .i64 s1, .int .i64 s2, .int .i64 s3, .int .i64 off, .int .i64 m, .int .i64 to, u] [.int .i64 xs.length, .int .i64 a0, .int .i64 a1, .int .i64 a2, .int .i64 a3, .int .i64 t0, .int .i64 t1, .int .i64 t2, .int .i64 t3, .int .i64 offg, .int .i64 stg, .int .i64 dtg, .slice su cs.length cu] (.slice sa ss.length cap) (.func (.func gf) #[] cb)
 have HB0 := hide HB0
 have X0 := hide X0
 have c0 := HB0.out.a 0 _ rfl
 have c1 := HB0.out.a 1 _ rfl
 have c2 := HB0.out.a 2 _ rfl
 have c3 := HB0.out.a 3 _ rfl
 have c4 := HB0.out.a 4 _ rfl
 have hmk := fun W => zm8 W KQ (Int.natCast_nonneg _) (by omega)
 refine callsIn_of_wp Tryz.func58 rfl trivial ?_ rfl
 simp only [Tryz.ntmps58, List.size_toArray, List.length_cons, List.length_nil, Nat.reduceAdd, Nat.reduceSub, Array.replicate_succ, Array.replicate_zero, List.push_toArray, List.append_toArray, List.nil_append, List.cons_append]
 gi_wp2
 refine ⟨trivial, hdd _, ?_⟩
 refine (callsIn_wide.2 (hcnt.out _)).mono ?_
 rintro e w3 ⟨rfl, hw3⟩
 have x3 : Ext (((((w.alloc (.cells #[.int .i64 xs.length, .int .i64 a0, .int .i64 a1, .int .i64 a2, .int .i64 a3, .int .i64 s0, .int .i64 s1, .int .i64 s2, .int .i64 s3, .int .i64 off, .int .i64 m, .int .i64 to, u] 85)).alloc (.cells #[.slice sa ss.length cap] 34)).alloc (.cells #[.int .i64 xs.length, .int .i64 a0, .int .i64 a1, .int .i64 a2, .int .i64 a3, .int .i64 t0, .int .i64 t1, .int .i64 t2, .int .i64 t3, .int .i64 offg, .int .i64 stg, .int .i64 dtg, .slice su cs.length cu] 85)).alloc (.cells #[.func (.func gf) #[] cb] 113)).alloc (.cells #[.slice none 0 0] 34)) w3 := by rw [hw3]; exact (Ext.refl _).alloc _ _
 have HB3 := hide (HB0.out.keep x3.bl)
 have X3 := hide (X0.out.trans x3)
 clear hw3 x3 hcnt HB0 c0 c1 c2 c3 c4 X0
 have x8 : Ext w3 ((w3.alloc (.cells (madeCells #[.int .i64 0, .float .f64 0, .float .f64 0] (KQ * 3)) 66)).alloc (.cells #[.slice (some ⟨w3.heap.size, 0, none⟩) 0 KQ] 61)) := ((Ext.refl w3).alloc _ _).alloc _ _
 have x8b : Ext (w3.alloc (.cells (madeCells #[.int .i64 0, .float .f64 0, .float .f64 0] (KQ * 3)) 66)) ((w3.alloc (.cells (madeCells #[.int .i64 0, .float .f64 0, .float .f64 0] (KQ * 3)) 66)).alloc (.cells #[.slice (some ⟨w3.heap.size, 0, none⟩) 0 KQ] 61)) := (Ext.refl _).alloc _ _
 have HB8 := hide (HB3.out.keep x8.bl)
 have hb3 := HB3.out.sz
 have hc8 : (((w3.alloc (.cells (madeCells #[.int .i64 0, .float .f64 0, .float .f64 0] (KQ * 3)) 66)).alloc (.cells #[.slice (some ⟨w3.heap.size, 0, none⟩) 0 KQ] 61))).cell? ⟨w3.heap.size + 1, 0, none⟩ = some (.slice (some ⟨w3.heap.size, 0, none⟩) 0 KQ) := ze (w3.alloc (.cells (madeCells #[.int .i64 0, .float .f64 0, .float .f64 0] (KQ * 3)) 66)) #[.slice (some ⟨w3.heap.size, 0, none⟩) 0 KQ] 61 (w3.heap.size + 1) (by simp) 0
 have ho8 : (((w3.alloc (.cells (madeCells #[.int .i64 0, .float .f64 0, .float .f64 0] (KQ * 3)) 66)).alloc (.cells #[.slice (some ⟨w3.heap.size, 0, none⟩) 0 KQ] 61))).ownsRow w3.heap.size 66 3 (.slice (some ⟨w3.heap.size, 0, none⟩) 0 KQ) 0 [] := zk3 (World.ownsRow_made (base := w3.heap.size) (e := 66) (size := 3) w3 (madeCells #[.int .i64 0, .float .f64 0, .float .f64 0] (KQ * 3)) KQ (Nat.le_refl _) (by unfold maxLen; omega) (by simp [madeCells])) x8b.bl
 have HE := hide (hel.out ((w3.alloc (.cells (madeCells #[.int .i64 0, .float .f64 0, .float .f64 0] (KQ * 3)) 66)).alloc (.cells #[.slice (some ⟨w3.heap.size, 0, none⟩) 0 KQ] 61)) HB8.out.bl (w3.heap.size + 1) w3.heap.size KQ w3.heap.size hc8 (x8.unfrozen (by omega) 0) ho8 (by omega) (w.heap.size + 1 + 1 + 1) (by omega) HB8.out.o (by omega) (by omega) (by omega))
 have hs8 : (((w3.alloc (.cells (madeCells #[.int .i64 0, .float .f64 0, .float .f64 0] (KQ * 3)) 66)).alloc (.cells #[.slice (some ⟨w3.heap.size, 0, none⟩) 0 KQ] 61))).heap.size = w3.heap.size + 2 := by simp
 have g0 := HB8.out.g 0 _ rfl
 have g1 := HB8.out.g 1 _ rfl
 have g2 := HB8.out.g 2 _ rfl
 have g3 := HB8.out.g 3 _ rfl
 have g4 := HB8.out.g 4 _ rfl
 have g5 := HB8.out.g 5 _ rfl
 have g6 := HB8.out.g 6 _ rfl
 have g7 := HB8.out.g 7 _ rfl
 have g8 := HB8.out.g 8 _ rfl
 have g9 := HB8.out.g 9 _ rfl
 have g10 := HB8.out.g 10 _ rfl
 have g11 := HB8.out.g 11 _ rfl
 have g12 := HB8.out.g 12 _ rfl
 have X8 := hide (X3.out.trans x8)
 clear x8 x8b hc8 ho8 hel HB3 X3
 gi_wp2
 refine ⟨trivial, hdd _, ?_⟩
 refine HE.out.mono ?_
 rintro e w9 ⟨rfl, rv, hrv, hown, hkp, hsz9, hbl9⟩
 have HB9 := hide (HB8.out.kp hkp (by omega) (by omega) hsz9 (hbl9 w.heap.size (by omega) (by omega) (by omega)))
 have hf9 : ∀ c, c = w.heap.size ∨ c = w.heap.size + 1 + 1 + 1 + 1 → ∀ q, w9.frozen? ⟨c, q, none⟩ = false := fun c hc q => by
  rcases hc with rfl | rfl
  ·exact (hkp.frozen (by omega) (by omega) (HB8.out.a 0 _ rfl) q).trans (X8.out.unfrozen (Nat.le_refl _) q)
  ·exact (hkp.frozen (by omega) (by omega) HB8.out.r q).trans (X8.out.unfrozen (by omega) q)
 have HF9 := hide hf9
 obtain ⟨sx, cx, rfl, hox⟩ := zq4 (lo := w3.heap.size) (Nat.le_refl _) (by rw [← hZl] at hown; exact hown)
 have hnb : Hid ((∃ o' c', (Value.slice sx Z.length cx) = .slice (some ⟨w.heap.size, o', none⟩) Z.length c') → 0 < Z.length → False) := fun ⟨o', c', e⟩ hz => by
  rcases hox with z | ⟨g, q1, q2, q3, q4⟩
  ·rw [z] at hz; simp at hz
  ·injection e with e1 e2 e3
   rw [q1] at e1
   injection e1 with e1
   injection e1 with e1
   omega
 have HRV := hide hrv
 have HOX : Hid (CV w9 (.slice sx Z.length cx) Z) := ⟨_, _, rfl, hox.imp id fun ⟨g, q1, q2, q3, q4⟩ => ⟨g, 0, q1, q3⟩⟩
 clear hrv hown hkp hbl9 hox HE HB8 hf9 X8 g0 g1 g2 g3 g4 g5 g6 g7 g8 g9 g10 g11 g12
 have c0 := HB9.out.a 0 _ rfl
 have c1 := HB9.out.a 1 _ rfl
 have c2 := HB9.out.a 2 _ rfl
 have c3 := HB9.out.a 3 _ rfl
 have c4 := HB9.out.a 4 _ rfl
 have c5 := HB9.out.a 5 _ rfl
 have c6 := HB9.out.a 6 _ rfl
 have c7 := HB9.out.a 7 _ rfl
 have c8 := HB9.out.a 8 _ rfl
 have c9 := HB9.out.a 9 _ rfl
 have c10 := HB9.out.a 10 _ rfl
 have c11 := HB9.out.a 11 _ rfl
 have c12 := HB9.out.a 12 _ rfl
 gi_wp2
 refine ⟨trivial, hdd _, ?_⟩
 refine (callsIn_wide.2 (hal.out w9)).mono ?_
 rintro e w10 ⟨rfl, x10⟩
 have HB10 := hide (HB9.out.keep x10.bl)
 have HRV10 := hide (x10.box HRV.out)
 have HOX10 := hide (HOX.out.keep x10.bl)
 have hs10 := x10.bl.size
 have HXF : Hid (∀ q, w10.frozen? ⟨w.heap.size, q, none⟩ = false) := fun q => (x10.fz _).trans (HF9.out _ (Or.inl rfl) q)
 have HXR : Hid (w10.frozen? ⟨w.heap.size + 1 + 1 + 1 + 1, 0, none⟩ = false) := (x10.fz _).trans (HF9.out _ (Or.inr rfl) 0)
 clear x10 hal HB9 HRV HOX c0 c1 c2 c3 c4 c5 c6 c7 c8 c9 c10 c11 c12
 have c0 := HB10.out.a 0 _ rfl
 have c1 := HB10.out.a 1 _ rfl
 have c2 := HB10.out.a 2 _ rfl
 have c3 := HB10.out.a 3 _ rfl
 have c4 := HB10.out.a 4 _ rfl
 have c5 := HB10.out.a 5 _ rfl
 have c6 := HB10.out.a 6 _ rfl
 have c7 := HB10.out.a 7 _ rfl
 have c8 := HB10.out.a 8 _ rfl
 have c9 := HB10.out.a 9 _ rfl
 have c10 := HB10.out.a 10 _ rfl
 have c11 := HB10.out.a 11 _ rfl
 have c12 := HB10.out.a 12 _ rfl
 have f0 := HXF.out 0
 have f1 := HXF.out 1
 have f2 := HXF.out 2
 have f3 := HXF.out 3
 have f4 := HXF.out 4
 have f5 := HXF.out 5
 have f6 := HXF.out 6
 have f7 := HXF.out 7
 have f8 := HXF.out 8
 have f9 := HXF.out 9
 have HST : Hid (MuB w.heap.size w10 ((((((((((w10.setCell ⟨w.heap.size, 0, none⟩ (.int .i64 xs.length)).setCell ⟨w.heap.size, 1, none⟩ (.int .i64 m0)).setCell ⟨w.heap.size, 2, none⟩ (.int .i64 m1)).setCell ⟨w.heap.size, 3, none⟩ (.int .i64 m2)).setCell ⟨w.heap.size, 4, none⟩ (.int .i64 m3)).setCell ⟨w.heap.size, 5, none⟩ (.int .i64 r0)).setCell ⟨w.heap.size, 6, none⟩ (.int .i64 r1)).setCell ⟨w.heap.size, 7, none⟩ (.int .i64 r2)).setCell ⟨w.heap.size, 8, none⟩ (.int .i64 r3)).setCell ⟨w.heap.size, 9, none⟩ (.int .i64 off))) := stL_mu w10 w.heap.size 0 [.int .i64 xs.length, .int .i64 m0, .int .i64 m1, .int .i64 m2, .int .i64 m3, .int .i64 r0, .int .i64 r1, .int .i64 r2, .int .i64 r3, .int .i64 off]
 have HSC : Hid (∀ q v, [.int .i64 xs.length, .int .i64 m0, .int .i64 m1, .int .i64 m2, .int .i64 m3, .int .i64 r0, .int .i64 r1, .int .i64 r2, .int .i64 r3, .int .i64 off][q]? = some v → (((((((((((w10.setCell ⟨w.heap.size, 0, none⟩ (.int .i64 xs.length)).setCell ⟨w.heap.size, 1, none⟩ (.int .i64 m0)).setCell ⟨w.heap.size, 2, none⟩ (.int .i64 m1)).setCell ⟨w.heap.size, 3, none⟩ (.int .i64 m2)).setCell ⟨w.heap.size, 4, none⟩ (.int .i64 m3)).setCell ⟨w.heap.size, 5, none⟩ (.int .i64 r0)).setCell ⟨w.heap.size, 6, none⟩ (.int .i64 r1)).setCell ⟨w.heap.size, 7, none⟩ (.int .i64 r2)).setCell ⟨w.heap.size, 8, none⟩ (.int .i64 r3)).setCell ⟨w.heap.size, 9, none⟩ (.int .i64 off))).cell? ⟨w.heap.size, q, none⟩ = some v) := fun q v hq => by
  have := zs14 w10 w.heap.size 0 [.int .i64 xs.length, .int .i64 m0, .int .i64 m1, .int .i64 m2, .int .i64 m3, .int .i64 r0, .int .i64 r1, .int .i64 r2, .int .i64 r3, .int .i64 off] (fun q _ h2 => by
   simp only [List.length_cons, List.length_nil] at h2
   rcases (show q = 0 ∨ q = 1 ∨ q = 2 ∨ q = 3 ∨ q = 4 ∨ q = 5 ∨ q = 6 ∨ q = 7 ∨ q = 8 ∨ q = 9 by omega) with rfl | rfl | rfl | rfl | rfl | rfl | rfl | rfl | rfl | rfl
   ·exact ⟨_, c0⟩
   ·exact ⟨_, c1⟩
   ·exact ⟨_, c2⟩
   ·exact ⟨_, c3⟩
   ·exact ⟨_, c4⟩
   ·exact ⟨_, c5⟩
   ·exact ⟨_, c6⟩
   ·exact ⟨_, c7⟩
   ·exact ⟨_, c8⟩
   ·exact ⟨_, c9⟩) q v hq
  rw [Nat.zero_add] at this
  exact this
 have HSL : Hid (∀ q, 10 ≤ q → (((((((((((w10.setCell ⟨w.heap.size, 0, none⟩ (.int .i64 xs.length)).setCell ⟨w.heap.size, 1, none⟩ (.int .i64 m0)).setCell ⟨w.heap.size, 2, none⟩ (.int .i64 m1)).setCell ⟨w.heap.size, 3, none⟩ (.int .i64 m2)).setCell ⟨w.heap.size, 4, none⟩ (.int .i64 m3)).setCell ⟨w.heap.size, 5, none⟩ (.int .i64 r0)).setCell ⟨w.heap.size, 6, none⟩ (.int .i64 r1)).setCell ⟨w.heap.size, 7, none⟩ (.int .i64 r2)).setCell ⟨w.heap.size, 8, none⟩ (.int .i64 r3)).setCell ⟨w.heap.size, 9, none⟩ (.int .i64 off))).cell? ⟨w.heap.size, q, none⟩ = w10.cell? ⟨w.heap.size, q, none⟩) := fun q hq => zr14 w10 w.heap.size 0 [.int .i64 xs.length, .int .i64 m0, .int .i64 m1, .int .i64 m2, .int .i64 m3, .int .i64 r0, .int .i64 r1, .int .i64 r2, .int .i64 r3, .int .i64 off] q hq
 have hh := HST.out.box (by omega) HB10.out.h
 have hcc := HST.out.box (by omega) HRV10.out
 have hrr := HST.out.box (by omega) HB10.out.r
 have hfr := (HST.out.frozen (o := 0) (by omega) (zj HB10.out.r)).trans HXR.out
 gi_wp2
 refine ⟨trivial, hdd _, ?_⟩
 have HCV : Hid (CV ((((((((((w10.setCell ⟨w.heap.size, 0, none⟩ (.int .i64 xs.length)).setCell ⟨w.heap.size, 1, none⟩ (.int .i64 m0)).setCell ⟨w.heap.size, 2, none⟩ (.int .i64 m1)).setCell ⟨w.heap.size, 3, none⟩ (.int .i64 m2)).setCell ⟨w.heap.size, 4, none⟩ (.int .i64 m3)).setCell ⟨w.heap.size, 5, none⟩ (.int .i64 r0)).setCell ⟨w.heap.size, 6, none⟩ (.int .i64 r1)).setCell ⟨w.heap.size, 7, none⟩ (.int .i64 r2)).setCell ⟨w.heap.size, 8, none⟩ (.int .i64 r3)).setCell ⟨w.heap.size, 9, none⟩ (.int .i64 off)) (.slice sx Z.length cx) Z) := by
  obtain ⟨s', c', e', hx'⟩ := HOX10.out
  refine ⟨s', c', e', ?_⟩
  rcases hx' with z | ⟨b', o', e2, hr'⟩
  ·exact Or.inl z
  ·rcases Nat.lt_or_ge 0 Z.length with zz | zz
   ·refine Or.inr ⟨b', o', e2, fun j hj => ?_⟩
    have hb' : b' ≠ w.heap.size := fun e => hnb.out (by rw [← e]; exact ⟨o', c', by rw [e2] at e'; exact e'⟩) zz
    exact ⟨HST.out.box hb' (hr' j hj).1, HST.out.box hb' (hr' j hj).2.1, HST.out.box hb' (hr' j hj).2.2⟩
   ·exact Or.inl (List.length_eq_zero_iff.1 (by omega))
 have HBW : Hid (Bel w ((((((((((w10.setCell ⟨w.heap.size, 0, none⟩ (.int .i64 xs.length)).setCell ⟨w.heap.size, 1, none⟩ (.int .i64 m0)).setCell ⟨w.heap.size, 2, none⟩ (.int .i64 m1)).setCell ⟨w.heap.size, 3, none⟩ (.int .i64 m2)).setCell ⟨w.heap.size, 4, none⟩ (.int .i64 m3)).setCell ⟨w.heap.size, 5, none⟩ (.int .i64 r0)).setCell ⟨w.heap.size, 6, none⟩ (.int .i64 r1)).setCell ⟨w.heap.size, 7, none⟩ (.int .i64 r2)).setCell ⟨w.heap.size, 8, none⟩ (.int .i64 r3)).setCell ⟨w.heap.size, 9, none⟩ (.int .i64 off))) := HST.out.below HB10.out.bl (Nat.le_refl _)
 have HW := hide (hw2.out _ HBW.out sx cx HCV.out)
 rw [hZl] at HW
 have hss : w.heap.size + 1 + 1 + 1 + 1 < (((((((((((w10.setCell ⟨w.heap.size, 0, none⟩ (.int .i64 xs.length)).setCell ⟨w.heap.size, 1, none⟩ (.int .i64 m0)).setCell ⟨w.heap.size, 2, none⟩ (.int .i64 m1)).setCell ⟨w.heap.size, 3, none⟩ (.int .i64 m2)).setCell ⟨w.heap.size, 4, none⟩ (.int .i64 m3)).setCell ⟨w.heap.size, 5, none⟩ (.int .i64 r0)).setCell ⟨w.heap.size, 6, none⟩ (.int .i64 r1)).setCell ⟨w.heap.size, 7, none⟩ (.int .i64 r2)).setCell ⟨w.heap.size, 8, none⟩ (.int .i64 r3)).setCell ⟨w.heap.size, 9, none⟩ (.int .i64 off))).heap.size := zj hrr
 clear HST HSC HSL hw2 HCV c0 c1 c2 c3 c4 c5 c6 c7 c8 c9 c10 c11 c12 f0 f1 f2 f3 f4 f5 f6 f7 f8 f9 hh hcc
 generalize ((((((((((w10.setCell ⟨w.heap.size, 0, none⟩ (.int .i64 xs.length)).setCell ⟨w.heap.size, 1, none⟩ (.int .i64 m0)).setCell ⟨w.heap.size, 2, none⟩ (.int .i64 m1)).setCell ⟨w.heap.size, 3, none⟩ (.int .i64 m2)).setCell ⟨w.heap.size, 4, none⟩ (.int .i64 m3)).setCell ⟨w.heap.size, 5, none⟩ (.int .i64 r0)).setCell ⟨w.heap.size, 6, none⟩ (.int .i64 r1)).setCell ⟨w.heap.size, 7, none⟩ (.int .i64 r2)).setCell ⟨w.heap.size, 8, none⟩ (.int .i64 r3)).setCell ⟨w.heap.size, 9, none⟩ (.int .i64 off)) = W11 at HBW HW hss hrr hfr ⊢
 refine HW.out.mono ?_
 rintro e w12 ⟨g, cb', rfl, hO, hB12⟩
 have hr12 := Bel.box hB12 hrr
 have hf12 := (Below.frozen hB12 (p := ⟨w.heap.size + 1 + 1 + 1 + 1, 0, none⟩) hss).trans hfr
 have HO12 := hide hO
 have HB12 := hide (Bel.tr HBW.out hB12)
 clear hO hB12 HW hZl hs8 hs10 hsz9 hmk hrr hfr hR4 eg
 gi_wp2
 refine bodyPost_ret (v := .agg #[.slice (some ⟨g, 0, none⟩) ss.length ss.length]) (by simp [results, Tryz.results58, go_sem, hr12]) rfl ⟨g, cb', rfl, ?_, HB12.out.setCell (p := ⟨w.heap.size + 1 + 1 + 1 + 1, 0, none⟩) (by show _ ≤ w.heap.size + 1 + 1 + 1 + 1; omega) _⟩
 exact (HOwn.far HO12.out (by have := HO12.out.lo_g; omega) (fun j hj hne => by have a1 := HO12.out.g_cb j hj hne; have a2 := HO12.out.lo_g; omega)).lower (by omega)
end
section
open Go.ChangeShapes Go.RowKit Go.Shelf FL
theorem zp7 (xs sv : List Int) (off st dt fr : Int) (u : Value) (hv : ValidV xs sv off) (w : World) :
  Calls Tryz.prog 38 #[.agg #[.int .i64 xs.length, .int .i64 (xs.getD 0 0), .int .i64 (xs.getD 1 0), .int .i64 (xs.getD 2 0), .int .i64 (xs.getD 3 0), .int .i64 (sv.getD 0 0), .int .i64 (sv.getD 1 0), .int .i64 (sv.getD 2 0), .int .i64 (sv.getD 3 0), .int .i64 off, .int .i64 st, .int .i64 dt, u], .int .i64 fr] w fun e w' => e = .returned (.int .i64 (wrC (decide (offsL xs sv off).Nodup) (castL fr dt 1))) ∧ Bel w w' := by
 have hd := hide (fun W => differ_any hv W)
 generalize decide (offsL xs sv off).Nodup = nd at hd ⊢
 unfold vw at hd
 clear hv
 generalize xs.getD 0 0 = a0 at *
 generalize xs.getD 1 0 = a1 at *
 generalize xs.getD 2 0 = a2 at *
 generalize xs.getD 3 0 = a3 at *
 generalize sv.getD 0 0 = b0 at *
 generalize sv.getD 1 0 = b1 at *
 generalize sv.getD 2 0 = b2 at *
 generalize sv.getD 3 0 = b3 at *
 have x0 : Ext w (w.alloc (.cells #[.int .i64 xs.length, .int .i64 a0, .int .i64 a1, .int .i64 a2, .int .i64 a3, .int .i64 b0, .int .i64 b1, .int .i64 b2, .int .i64 b3, .int .i64 off, .int .i64 st, .int .i64 dt, u] 85)) := (Ext.refl w).alloc _ _
 have n0 := fun j => ze w #[.int .i64 xs.length, .int .i64 a0, .int .i64 a1, .int .i64 a2, .int .i64 a3, .int .i64 b0, .int .i64 b1, .int .i64 b2, .int .i64 b3, .int .i64 off, .int .i64 st, .int .i64 dt, u] 85 w.heap.size rfl j
 have HS : Hid (∀ W', Bel (w.alloc (.cells #[.int .i64 xs.length, .int .i64 a0, .int .i64 a1, .int .i64 a2, .int .i64 a3, .int .i64 b0, .int .i64 b1, .int .i64 b2, .int .i64 b3, .int .i64 off, .int .i64 st, .int .i64 dt, u] 85)) W' → (fun w' => w'.cell? ⟨w.heap.size, 0, none⟩ = some (.int .i64 xs.length) ∧ w'.cell? ⟨w.heap.size, 1, none⟩ = some (.int .i64 a0) ∧ w'.cell? ⟨w.heap.size, 2, none⟩ = some (.int .i64 a1) ∧ w'.cell? ⟨w.heap.size, 3, none⟩ = some (.int .i64 a2) ∧ w'.cell? ⟨w.heap.size, 4, none⟩ = some (.int .i64 a3) ∧ w'.cell? ⟨w.heap.size, 5, none⟩ = some (.int .i64 b0) ∧ w'.cell? ⟨w.heap.size, 6, none⟩ = some (.int .i64 b1) ∧ w'.cell? ⟨w.heap.size, 7, none⟩ = some (.int .i64 b2) ∧ w'.cell? ⟨w.heap.size, 8, none⟩ = some (.int .i64 b3) ∧ w'.cell? ⟨w.heap.size, 9, none⟩ = some (.int .i64 off) ∧ w'.cell? ⟨w.heap.size, 11, none⟩ = some (.int .i64 dt)) W') := fun W' h => ⟨Bel.box h (n0 0), Bel.box h (n0 1), Bel.box h (n0 2), Bel.box h (n0 3), Bel.box h (n0 4), Bel.box h (n0 5), Bel.box h (n0 6), Bel.box h (n0 7), Bel.box h (n0 8), Bel.box h (n0 9), Bel.box h (n0 11)⟩
 have X0 := hide x0.bl
 clear x0 n0
 generalize hcc : castL fr dt 1 = cc
 have Hcc := hide hcc
 clear hcc
 cases nd <;> cases cc
 ·go_enter Tryz.func38, Tryz.ntmps38
  go_wp2_with fail
  generalize w.alloc (.cells #[.int .i64 xs.length, .int .i64 a0, .int .i64 a1, .int .i64 a2, .int .i64 a3, .int .i64 b0, .int .i64 b1, .int .i64 b2, .int .i64 b3, .int .i64 off, .int .i64 st, .int .i64 dt, u] 85) = W1 at HS X0 ⊢
  have HB0 : Hid (Bel W1 W1.drew) := (Below.refl _ _).drew
  have SA := hide (HS.out W1.drew HB0.out)
  go_region_held3 (fun w' => w'.cell? ⟨w.heap.size, 0, none⟩ = some (.int .i64 xs.length) ∧ w'.cell? ⟨w.heap.size, 1, none⟩ = some (.int .i64 a0) ∧ w'.cell? ⟨w.heap.size, 2, none⟩ = some (.int .i64 a1) ∧ w'.cell? ⟨w.heap.size, 3, none⟩ = some (.int .i64 a2) ∧ w'.cell? ⟨w.heap.size, 4, none⟩ = some (.int .i64 a3) ∧ w'.cell? ⟨w.heap.size, 5, none⟩ = some (.int .i64 b0) ∧ w'.cell? ⟨w.heap.size, 6, none⟩ = some (.int .i64 b1) ∧ w'.cell? ⟨w.heap.size, 7, none⟩ = some (.int .i64 b2) ∧ w'.cell? ⟨w.heap.size, 8, none⟩ = some (.int .i64 b3) ∧ w'.cell? ⟨w.heap.size, 9, none⟩ = some (.int .i64 off) ∧ w'.cell? ⟨w.heap.size, 11, none⟩ = some (.int .i64 dt)) (first | with_reducible exact SA.out | with_reducible exact SB.out | exact SA.out | exact SB.out | exact HS.out _ (HB2.out.alloc HB2.out.size _)) (first | (go_at_call 79; refine (hd.out _).mono ?_; rintro e w2 ⟨rfl, b2⟩; have HB2 := hide (Bel.tr HB0.out b2); have SB := hide (HS.out w2 HB2.out); clear b2) | (go_at_call 37; refine (za2 _ _ _).mono ?_; rintro e w' ⟨rfl, rfl⟩) | (go_at_call 80; refine (zu2 _ _ _ _).mono ?_; rintro e w' ⟨rfl, rfl⟩; rw [Hcc.out]) | (go_at_call 36; refine (zf2 (xs := [9, 10]) (zj4 _ _ _ _) (by simp)).mono ?_; rintro e w' ⟨rfl, rfl⟩))
  go_wp2
  go_ret
  exact ⟨rfl, Bel.tr X0.out (HB2.out.alloc HB2.out.size _)⟩
 ·go_enter Tryz.func38, Tryz.ntmps38
  go_wp2_with fail
  generalize w.alloc (.cells #[.int .i64 xs.length, .int .i64 a0, .int .i64 a1, .int .i64 a2, .int .i64 a3, .int .i64 b0, .int .i64 b1, .int .i64 b2, .int .i64 b3, .int .i64 off, .int .i64 st, .int .i64 dt, u] 85) = W1 at HS X0 ⊢
  have HB0 : Hid (Bel W1 W1.drew) := (Below.refl _ _).drew
  have SA := hide (HS.out W1.drew HB0.out)
  go_region_held3 (fun w' => w'.cell? ⟨w.heap.size, 0, none⟩ = some (.int .i64 xs.length) ∧ w'.cell? ⟨w.heap.size, 1, none⟩ = some (.int .i64 a0) ∧ w'.cell? ⟨w.heap.size, 2, none⟩ = some (.int .i64 a1) ∧ w'.cell? ⟨w.heap.size, 3, none⟩ = some (.int .i64 a2) ∧ w'.cell? ⟨w.heap.size, 4, none⟩ = some (.int .i64 a3) ∧ w'.cell? ⟨w.heap.size, 5, none⟩ = some (.int .i64 b0) ∧ w'.cell? ⟨w.heap.size, 6, none⟩ = some (.int .i64 b1) ∧ w'.cell? ⟨w.heap.size, 7, none⟩ = some (.int .i64 b2) ∧ w'.cell? ⟨w.heap.size, 8, none⟩ = some (.int .i64 b3) ∧ w'.cell? ⟨w.heap.size, 9, none⟩ = some (.int .i64 off) ∧ w'.cell? ⟨w.heap.size, 11, none⟩ = some (.int .i64 dt)) (first | with_reducible exact SA.out | with_reducible exact SB.out | exact SA.out | exact SB.out | exact HS.out _ (HB2.out.alloc HB2.out.size _)) (first | (go_at_call 79; refine (hd.out _).mono ?_; rintro e w2 ⟨rfl, b2⟩; have HB2 := hide (Bel.tr HB0.out b2); have SB := hide (HS.out w2 HB2.out); clear b2) | (go_at_call 37; refine (za2 _ _ _).mono ?_; rintro e w' ⟨rfl, rfl⟩) | (go_at_call 80; refine (zu2 _ _ _ _).mono ?_; rintro e w' ⟨rfl, rfl⟩; rw [Hcc.out]) | (go_at_call 36; refine (zf2 (xs := [9, 0]) (zj4 _ _ _ _) (by simp)).mono ?_; rintro e w' ⟨rfl, rfl⟩))
  go_wp2
  go_ret
  exact ⟨rfl, Bel.tr X0.out (HB2.out.alloc HB2.out.size _)⟩
 ·go_enter Tryz.func38, Tryz.ntmps38
  go_wp2_with fail
  generalize w.alloc (.cells #[.int .i64 xs.length, .int .i64 a0, .int .i64 a1, .int .i64 a2, .int .i64 a3, .int .i64 b0, .int .i64 b1, .int .i64 b2, .int .i64 b3, .int .i64 off, .int .i64 st, .int .i64 dt, u] 85) = W1 at HS X0 ⊢
  have HB0 : Hid (Bel W1 W1.drew) := (Below.refl _ _).drew
  have SA := hide (HS.out W1.drew HB0.out)
  go_region_held3 (fun w' => w'.cell? ⟨w.heap.size, 0, none⟩ = some (.int .i64 xs.length) ∧ w'.cell? ⟨w.heap.size, 1, none⟩ = some (.int .i64 a0) ∧ w'.cell? ⟨w.heap.size, 2, none⟩ = some (.int .i64 a1) ∧ w'.cell? ⟨w.heap.size, 3, none⟩ = some (.int .i64 a2) ∧ w'.cell? ⟨w.heap.size, 4, none⟩ = some (.int .i64 a3) ∧ w'.cell? ⟨w.heap.size, 5, none⟩ = some (.int .i64 b0) ∧ w'.cell? ⟨w.heap.size, 6, none⟩ = some (.int .i64 b1) ∧ w'.cell? ⟨w.heap.size, 7, none⟩ = some (.int .i64 b2) ∧ w'.cell? ⟨w.heap.size, 8, none⟩ = some (.int .i64 b3) ∧ w'.cell? ⟨w.heap.size, 9, none⟩ = some (.int .i64 off) ∧ w'.cell? ⟨w.heap.size, 11, none⟩ = some (.int .i64 dt)) (first | with_reducible exact SA.out | with_reducible exact SB.out | exact SA.out | exact SB.out | exact HS.out _ (HB2.out.alloc HB2.out.size _)) (first | (go_at_call 79; refine (hd.out _).mono ?_; rintro e w2 ⟨rfl, b2⟩; have HB2 := hide (Bel.tr HB0.out b2); have SB := hide (HS.out w2 HB2.out); clear b2) | (go_at_call 37; refine (za2 _ _ _).mono ?_; rintro e w' ⟨rfl, rfl⟩) | (go_at_call 80; refine (zu2 _ _ _ _).mono ?_; rintro e w' ⟨rfl, rfl⟩; rw [Hcc.out]) | (go_at_call 36; refine (zf2 (xs := [0, 10]) (zj4 _ _ _ _) (by simp)).mono ?_; rintro e w' ⟨rfl, rfl⟩))
  go_wp2
  go_ret
  exact ⟨rfl, Bel.tr X0.out (HB2.out.alloc HB2.out.size _)⟩
 ·go_enter Tryz.func38, Tryz.ntmps38
  go_wp2_with fail
  generalize w.alloc (.cells #[.int .i64 xs.length, .int .i64 a0, .int .i64 a1, .int .i64 a2, .int .i64 a3, .int .i64 b0, .int .i64 b1, .int .i64 b2, .int .i64 b3, .int .i64 off, .int .i64 st, .int .i64 dt, u] 85) = W1 at HS X0 ⊢
  have HB0 : Hid (Bel W1 W1.drew) := (Below.refl _ _).drew
  have SA := hide (HS.out W1.drew HB0.out)
  go_region_held3 (fun w' => w'.cell? ⟨w.heap.size, 0, none⟩ = some (.int .i64 xs.length) ∧ w'.cell? ⟨w.heap.size, 1, none⟩ = some (.int .i64 a0) ∧ w'.cell? ⟨w.heap.size, 2, none⟩ = some (.int .i64 a1) ∧ w'.cell? ⟨w.heap.size, 3, none⟩ = some (.int .i64 a2) ∧ w'.cell? ⟨w.heap.size, 4, none⟩ = some (.int .i64 a3) ∧ w'.cell? ⟨w.heap.size, 5, none⟩ = some (.int .i64 b0) ∧ w'.cell? ⟨w.heap.size, 6, none⟩ = some (.int .i64 b1) ∧ w'.cell? ⟨w.heap.size, 7, none⟩ = some (.int .i64 b2) ∧ w'.cell? ⟨w.heap.size, 8, none⟩ = some (.int .i64 b3) ∧ w'.cell? ⟨w.heap.size, 9, none⟩ = some (.int .i64 off) ∧ w'.cell? ⟨w.heap.size, 11, none⟩ = some (.int .i64 dt)) (first | with_reducible exact SA.out | with_reducible exact SB.out | exact SA.out | exact SB.out | exact HS.out _ (HB2.out.alloc HB2.out.size _)) (first | (go_at_call 79; refine (hd.out _).mono ?_; rintro e w2 ⟨rfl, b2⟩; have HB2 := hide (Bel.tr HB0.out b2); have SB := hide (HS.out w2 HB2.out); clear b2) | (go_at_call 37; refine (za2 _ _ _).mono ?_; rintro e w' ⟨rfl, rfl⟩) | (go_at_call 80; refine (zu2 _ _ _ _).mono ?_; rintro e w' ⟨rfl, rfl⟩; rw [Hcc.out]) | (go_at_call 36; refine (zf2 (xs := [0, 0]) (zj4 _ _ _ _) (by simp)).mono ?_; rintro e w' ⟨rfl, rfl⟩))
  go_wp2
  go_ret
  exact ⟨rfl, Bel.tr X0.out (HB2.out.alloc HB2.out.size _)⟩
def axC (ax : Int) (n : Nat) : Int := if ax < 0 ∨ (n : Int) ≤ ax then 5 else 0
theorem zf12 (xs sv : List Int) (off ax : Int) (w : World) :
  Calls Tryz.prog 56 #[.agg (vw xs sv off), .int .i64 ax] w fun e w' => e = .returned (.int .i64 (axC ax xs.length)) ∧ Ext w w' := by
 unfold vw
 generalize xs.getD 0 0 = a0
 generalize xs.getD 1 0 = a1
 generalize xs.getD 2 0 = a2
 generalize xs.getD 3 0 = a3
 generalize sv.getD 0 0 = s0
 generalize sv.getD 1 0 = s1
 generalize sv.getD 2 0 = s2
 generalize sv.getD 3 0 = s3
 have k0' := ze w #[.int .i64 xs.length, .int .i64 a0, .int .i64 a1, .int .i64 a2, .int .i64 a3, .int .i64 s0, .int .i64 s1, .int .i64 s2, .int .i64 s3, .int .i64 off] 83 w.heap.size rfl 0
 simp only [List.getElem?_toArray, List.getElem?_cons_zero] at k0'
 have X0 : Hid (Ext w (w.alloc (.cells #[.int .i64 xs.length, .int .i64 a0, .int .i64 a1, .int .i64 a2, .int .i64 a3, .int .i64 s0, .int .i64 s1, .int .i64 s2, .int .i64 s3, .int .i64 off] 83))) := (Ext.refl w).alloc _ _
 by_cases h0 : ax < 0
 ·have hd0 : decide (ax < 0) = true := decide_eq_true h0
  have hc : Hid (axC ax xs.length = 5) := by show _ = _; unfold axC; rw [if_pos (Or.inl h0)]
  go_enter Tryz.func56, Tryz.ntmps56
  go_wp2_with (go_at_call 37; refine (za2 true 5 _).mono ?_; rintro e w' ⟨rfl, rfl⟩)
  go_ret
  exact ⟨by rw [hc.out]; rfl, X0.out⟩
 ·have hd0 : decide (ax < 0) = false := decide_eq_false h0
  by_cases h1 : (xs.length : Int) ≤ ax
  ·have hd1 : decide ((xs.length : Int) ≤ ax) = true := decide_eq_true h1
   have hc : Hid (axC ax xs.length = 5) := by show _ = _; unfold axC; rw [if_pos (Or.inr h1)]
   go_enter Tryz.func56, Tryz.ntmps56
   go_wp2_with (go_at_call 37; refine (za2 true 5 _).mono ?_; rintro e w' ⟨rfl, rfl⟩)
   go_ret
   exact ⟨by rw [hc.out]; rfl, X0.out⟩
  ·have hd1 : decide ((xs.length : Int) ≤ ax) = false := decide_eq_false h1
   have hc : Hid (axC ax xs.length = 0) := by show _ = _; unfold axC; rw [if_neg (by omega)]
   go_enter Tryz.func56, Tryz.ntmps56
   go_wp2_with (go_at_call 37; refine (za2 false 5 _).mono ?_; rintro e w' ⟨rfl, rfl⟩)
   go_ret
   exact ⟨by rw [hc.out]; rfl, X0.out⟩
theorem enter59 (args : Array Value) (w : World) : (callFunc 59 args).run Tryz.prog w = .ok (.enter 59 args) w := by
 have hn : ¬ Tryz.f59.name = "runtime.NumGoroutine" := by decide
 have hb : ¬ Tryz.f59.body = none := by intro h; cases h
 unfold callFunc
 simp [Tryz.func59, go_sem, hn, hb]
def srtO (dt : Int) (K : Nat) (f : Nat → C3) (i : Nat) : C3 := f ((ordL f dt K K).getD i 0).toNat
theorem za15 {dt : Int} {K : Nat} {f g : Nat → C3} (h : ∀ i, i < K → f i = g i) : ordL f dt K K = ordL g dt K K := zs6 (fun i j hi hj => by rw [h i hi, h j hj]) K (Nat.le_refl _)
theorem srtO_cong {dt : Int} {K : Nat} (f g : Nat → C3) (h : ∀ i, i < K → f i = g i) (i : Nat) (hi : i < K) : srtO dt K f i = srtO dt K g i := by
 unfold srtO
 rw [za15 h]
 have := zt6 g dt (show 0 < K by omega) K (Nat.le_refl _) i
 exact h _ (by omega)
theorem sort_ofk {w : World} {OB DB K : Nat} {dt : Int} (hO : w.cell? ⟨OB, 0, none⟩ = some (.func (.func 97) #[] #[.pointer (some ⟨DB, 0, none⟩)])) (hD : w.cell? ⟨DB, 0, none⟩ = some (.int .i64 dt)) (hK : K ≤ 4096) :
  ∀ W cB gB bc, Bel w W → w.heap.size ≤ cB → w.heap.size ≤ gB → W.heap.size ≤ bc → OfK 59 #[.pointer (some ⟨OB, 0, none⟩)] bc K dt (srtO dt K) (KpO W cB gB) := fun W cB gB bc x h1 h2 h3 => by
 have lO := zj hO
 have lD := zj hD
 have hs := x.size
 refine ⟨fun W' off f hk hf hz hok => ?_⟩
 have hO' := hk.cell (by omega) (by omega) (Bel.box x hO)
 have hD' := hk.cell (by omega) (by omega) (Bel.box x hD)
 refine (zc9 (cap := K) hf hz hO' hD' (by omega) hok (by omega)).mono ?_
 rintro e W2 ⟨rfl, r, hp, hsr, hc, hm⟩
 refine ⟨bc, off, K, rfl, hc.congr (fun j hj => ?_), ⟨_, hc, fun i hi => hok _ (hp.inn i (Nat.zero_le _) hi).2⟩, hm⟩
 unfold srtO
 rw [ord_sorted hok hp hsr j hj, Int.toNat_natCast]
theorem map_at {l : List Int} {g : Int → C3} {j : Nat} (hj : j < l.length) : (l.map g).getD j k0 = g (l.getD j 0) := by
 simp [List.getD_eq_getElem?_getD, hj]
section
variable {ss : List St} {a : Ar} {ax : Nat}
theorem rd_mv (hga : a.Good ss) (ha : ax < a.xs.length) (hz : prod a.xs ≠ 0) {j : Nat} (hj : j < (a.rd ss).length) : ((offsL (mvL ax a.xs) (mvL ax a.sv) a.off).map fun p => (ss.getD a.st.toNat s0).2.getD p.toNat k0).getD j k0 = (a.rd ss).getD (kapJ ax a.xs j) k0 := by
 have hl : (a.rd ss).length = (offsL a.xs a.sv a.off).length := by unfold Ar.rd readL; rw [List.length_map]
 obtain ⟨m1, m2⟩ := zu6 hga.2.1 ha
 rw [hl] at hj
 have hp : ∀ n ∈ a.xs, 1 ≤ n := fun n hn => (zd1 hga.2.1.1 hz n hn).1
 have hpl := zr (fun n hn => by have := hp n hn; omega : ∀ n ∈ a.xs, 0 ≤ n)
 have hc := zw hga.2.1
 have hk := zf7 hp ha (show j < plen a.xs by omega)
 have q := m2 j hj
 unfold Ar.rd readL
 rw [map_at (by omega), map_at (by omega), q]
theorem lane_mv (hga : a.Good ss) (ha : ax < a.xs.length) (hz : prod a.xs ≠ 0) {j : Nat} (hj : j < (a.rd ss).length) {m : Nat} (hm : m < (a.xs.getD ax 0).toNat) : ((offsL (mvL ax a.xs) (mvL ax a.sv) a.off).map fun p => (ss.getD a.st.toNat s0).2.getD p.toNat k0).getD (j / (a.xs.getD ax 0).toNat * (a.xs.getD ax 0).toNat + m) k0 = laneC (a.rd ss) a.xs ax (kapJ ax a.xs j) m := by
 have hl : (a.rd ss).length = (offsL a.xs a.sv a.off).length := by unfold Ar.rd readL; rw [List.length_map]
 have hp : ∀ n ∈ a.xs, 1 ≤ n := fun n hn => (zd1 hga.2.1.1 hz n hn).1
 have hpl := zr (fun n hn => by have := hp n hn; omega : ∀ n ∈ a.xs, 0 ≤ n)
 have hc := zw hga.2.1
 have d := zt8 hp ha (show j < plen a.xs by omega)
 have hK := K_pos hp ha
 have hle : (j / (a.xs.getD ax 0).toNat + 1) * (a.xs.getD ax 0).toNat ≤ plen (a.xs.eraseIdx ax) * (a.xs.getD ax 0).toNat := Nat.mul_le_mul_right _ d.1
 rw [Nat.add_mul, Nat.one_mul, ← zi2 ax a.xs ha] at hle
 rw [rd_mv hga ha hz (by omega)]
 have e1 : kapJ ax a.xs (j / (a.xs.getD ax 0).toNat * (a.xs.getD ax 0).toNat + m) = kap ax a.xs (j / (a.xs.getD ax 0).toNat) m := by
  unfold kapJ
  rw [Nat.mul_comm, Nat.mul_add_div hK, Nat.div_eq_of_lt hm, Nat.add_zero, Nat.mul_add_mod, Nat.mod_eq_of_lt hm]
 rw [e1]
 unfold laneC kapJ
 rw [kap_atN hp ha _ d.2]
theorem ord_mv (hga : a.Good ss) (ha : ax < a.xs.length) (hz : prod a.xs ≠ 0) (dt : Int) {j : Nat} (hj : j < (a.rd ss).length) : (ordL (fun m => ((offsL (mvL ax a.xs) (mvL ax a.sv) a.off).map fun p => (ss.getD a.st.toNat s0).2.getD p.toNat k0).getD (j / (a.xs.getD ax 0).toNat * (a.xs.getD ax 0).toNat + m) k0) dt (a.xs.getD ax 0).toNat (a.xs.getD ax 0).toNat).getD (j % (a.xs.getD ax 0).toNat) 0 = ordQ dt (a.rd ss) a.xs ax (kapJ ax a.xs j) := by
 have hl : (a.rd ss).length = (offsL a.xs a.sv a.off).length := by unfold Ar.rd readL; rw [List.length_map]
 have hp : ∀ n ∈ a.xs, 1 ≤ n := fun n hn => (zd1 hga.2.1.1 hz n hn).1
 have hpl := zr (fun n hn => by have := hp n hn; omega : ∀ n ∈ a.xs, 0 ≤ n)
 have hc := zw hga.2.1
 have d := zt8 hp ha (show j < plen a.xs by omega)
 rw [za15 (g := laneC (a.rd ss) a.xs ax (kapJ ax a.xs j)) (fun m hm => lane_mv hga ha hz hj hm)]
 unfold ordQ kapJ
 rw [kap_ax hp ha _ d.2, Int.toNat_natCast]
theorem ZL_sort (hga : a.Good ss) (ha : ax < a.xs.length) (hz : prod a.xs ≠ 0) (dt : Int) {j : Nat} (hj : j < (a.rd ss).length) : (ZL (srtO dt (a.xs.getD ax 0).toNat) ((offsL (mvL ax a.xs) (mvL ax a.sv) a.off).map fun p => (ss.getD a.st.toNat s0).2.getD p.toNat k0) (a.xs.getD ax 0).toNat (plen (a.xs.eraseIdx ax))).getD j k0 = srtQ dt (a.rd ss) a.xs ax (kapJ ax a.xs j) := by
 have hl : (a.rd ss).length = (offsL a.xs a.sv a.off).length := by unfold Ar.rd readL; rw [List.length_map]
 have hp : ∀ n ∈ a.xs, 1 ≤ n := fun n hn => (zd1 hga.2.1.1 hz n hn).1
 have hpl := zr (fun n hn => by have := hp n hn; omega : ∀ n ∈ a.xs, 0 ≤ n)
 have hc := zw hga.2.1
 have hK := K_pos hp ha
 have hRK := zi2 ax a.xs ha
 rw [ZL_at _ _ (by omega)]
 unfold srtO srtQ
 rw [ord_mv hga ha hz dt hj]
 refine lane_mv hga ha hz hj ?_
 have := zt6 (laneC (a.rd ss) a.xs ax (kapJ ax a.xs j)) dt hK (a.xs.getD ax 0).toNat (Nat.le_refl _) ((idxL a.xs (kapJ ax a.xs j)).getD ax 0).toNat
 unfold ordQ
 omega
theorem srtQ_ok (hga : a.Good ss) (ha : ax < a.xs.length) (hz : prod a.xs ≠ 0) {dt : Int} (hok : ∀ j, j < (a.rd ss).length → OkC dt ((a.rd ss).getD j k0)) (q : Nat) : OkC dt (srtQ dt (a.rd ss) a.xs ax q) := by
 have hl : (a.rd ss).length = (offsL a.xs a.sv a.off).length := by unfold Ar.rd readL; rw [List.length_map]
 have hp : ∀ n ∈ a.xs, 1 ≤ n := fun n hn => (zd1 hga.2.1.1 hz n hn).1
 have hpl := zr (fun n hn => by have := hp n hn; omega : ∀ n ∈ a.xs, 0 ≤ n)
 have hc := zw hga.2.1
 have hK := K_pos hp ha
 have b := zt6 (laneC (a.rd ss) a.xs ax q) dt hK (a.xs.getD ax 0).toNat (Nat.le_refl _) ((idxL a.xs q).getD ax 0).toNat
 unfold srtQ laneC
 refine hok _ ?_
 have := at_lt hp (ax := ax) (i := (ordQ dt (a.rd ss) a.xs ax q).toNat) (by unfold ordQ; omega) q
 omega
end
end
section
open List renaming setIfInBounds_toArray → sT, set_cons_zero → sZ, set_cons_succ → sS
open Go.ChangeShapes Go.RowKit FL
theorem HOwn.low {W : World} {lo g b q : Nat} {cb : Nat → Nat} {ts : List St} {v : Value} (h : HOwn W lo g cb ts) (hb : b < lo) : HOwn (W.setCell ⟨b, q, none⟩ v) lo g cb ts :=
 HOwn.far h (by have := h.lo_g; omega) (fun j hj hne => by have a1 := h.g_cb j hj hne; have a2 := h.lo_g; omega)
def IsoOk (w : World) (ss : List St) (a : Ar) (ax : Int) (e : Ending) (w' : World) : Prop := ∃ c u ts, e = .returned (.agg #[.int .i64 c, u]) ∧ SortOk ss a ax c ts ∧ MOwn w' w.heap.size u ts ∧ Bel w w'
theorem small_2 (ax : Int) (n : Nat) (nd : Bool) : smallL [axC ax n, wrC nd true] = if ax < 0 ∨ (n : Int) ≤ ax then 5 else if nd = true then 0 else 9 := by
 unfold axC
 by_cases h : ax < 0 ∨ (n : Int) ≤ ax
 ·rw [if_pos h, if_pos h]
  cases nd <;> decide
 ·rw [if_neg h, if_neg h]
  cases nd <;> decide
theorem zr3 {w : World} {v va : Value} {ss : List St} {a : Ar} (ax : Int) (h : SV w v ss) (hg : SG ss) (hl : SL ss 1048576) (ha : AV w va a) :
  Calls Tryz.prog 20 #[.agg #[v], va, .int .i64 ax] w fun e w' => IsoOk w ss a ax e w' := by
 obtain ⟨sa, cap, rfl, hx⟩ := h
 have h : SV w (.slice sa ss.length cap) ss := ⟨sa, cap, rfl, hx⟩
 obtain ⟨p1, c1, q1, d1, rfl, ia1, ia2, la⟩ := ha
 have BX0 := SBy.start w (.slice sa ss.length cap) [.int .i64 a.st, .slice p1 a.xs.length c1, .slice q1 a.sv.length d1, .int .i64 a.off]
 have AR := arow1 (B := w.heap.size + 3) (W := (((w.alloc (.cells #[.slice sa ss.length cap] 34)).alloc (.cells #[.int .i64 a.st, .slice p1 a.xs.length c1, .slice q1 a.sv.length d1, .int .i64 a.off] 41)).alloc (.cells #[.int .i64 0, .slice none 0 0] 36))) (by simp) ia1 ia2 BX0.bl
 have HH := hide h
 have xr : Ext (((w.alloc (.cells #[.slice sa ss.length cap] 34)).alloc (.cells #[.int .i64 a.st, .slice p1 a.xs.length c1, .slice q1 a.sv.length d1, .int .i64 a.off] 41)).alloc (.cells #[.int .i64 0, .slice none 0 0] 36)) (((((w.alloc (.cells #[.slice sa ss.length cap] 34)).alloc (.cells #[.int .i64 a.st, .slice p1 a.xs.length c1, .slice q1 a.sv.length d1, .int .i64 a.off] 41)).alloc (.cells #[.int .i64 0, .slice none 0 0] 36))).alloc (.cells #[.int .i64 a.st, .slice p1 a.xs.length c1, .slice q1 a.sv.length d1, .int .i64 a.off] 41)) := (Ext.refl _).alloc _ _
 have HF := hide (openN_any (oa := 0) (cp := 1) (h.keep (Bel.tr BX0.bl xr.bl)) hg hl AR (fun x hx => by simp at hx; subst hx; exact la) (by simp) (by simp))
 have HB0 := hide (BX0.keep xr.bl)
 have b0 := BX0.h
 have a0 := BX0.a 0 _ rfl
 have a1 := BX0.a 1 _ rfl
 have a2 := BX0.a 2 _ rfl
 have a3 := BX0.a 3 _ rfl
 have HG := hide hg
 have HL := hide hl
 clear AR BX0 xr hx h ia1 ia2 hg hl
 go_enter Tryz.func20, Tryz.ntmps20
 go_wp2_with fail
 refine HF.out.mono ?_
 rintro e w1 ⟨vo, rfl, b1, hres⟩
 have HB1 := hide (HB0.out.keep b1)
 have HB01 := hide b1
 clear b1 HF b0 a0 a1 a2 a3
 have b0 := HB1.out.h
 have a0 := HB1.out.a 0 _ rfl
 have a1 := HB1.out.a 1 _ rfl
 have a2 := HB1.out.a 2 _ rfl
 have a3 := HB1.out.a 3 _ rfl
 have r0 := HB1.out.r0
 have r1 := HB1.out.r1
 have f0 := HB1.out.fz 0
 have f1 := HB1.out.fz 1
 generalize hfe : firstL ss [a] = fc at hres ⊢
 by_cases hfc : fc ≠ 0
 ·have hok : Hid (fc = sortC ss a ax) := by show fc = _; unfold sortC; rw [hfe, if_pos hfc]
  have hne : (fc == 0) = false := by rw [beq_eq_false_iff_ne]; exact hfc
  clear hres
  go_wp2
  refine bodyPost_ret (v := .agg #[.int .i64 fc, .slice none 0 0]) (by simp [results, Tryz.results20, go_sem, r0, r1]) rfl ⟨fc, _, [], rfl, ⟨hok.out, .inl ⟨hfc, rfl⟩⟩, .inl ⟨rfl, rfl⟩, by (first | exact (HB1.out.bl.setCell (p := ⟨w.heap.size + 1 + 1, 0, none⟩) (by show _ ≤ w.heap.size + 1 + 1; omega) _).setCell (p := ⟨w.heap.size + 1 + 1, 1, none⟩) (by show _ ≤ w.heap.size + 1 + 1; omega) _ | exact HB1.out.bl.setCell (p := ⟨w.heap.size + 1 + 1, 0, none⟩) (by show _ ≤ w.heap.size + 1 + 1; omega) _)⟩
 have hfc0 : fc = 0 := by omega
 subst hfc0
 obtain ⟨hvh, hga⟩ := zn11 hfe
 obtain ⟨g, cg, U, rfl, hgl, hall, hU, hcells⟩ := hres.resolve_left hfc
 have hc5 : Hid (sortC ss a ax = if ax < 0 ∨ (a.xs.length : Int) ≤ ax then 5 else if WrV a.xs a.sv a.off then 0 else 9) := by show _ = _; unfold sortC; rw [hfe, if_neg (by simp)]
 obtain ⟨hdt, hok⟩ := heap_ok hvh HG.out hga
 have HOK := hide hok
 have hUa := hU a.st.toNat (by have := hga.1; omega)
 have hop : ∀ i x, (a.open U ss)[i]? = some x → w1.cell? ⟨g, i, none⟩ = some x := fun i x hx => by
  have := hcells 0 i x (by simp) hx
  simpa using this
 have hdd : Hid (a.dt ss = (ss.getD a.st.toNat s0).1) := rfl
 obtain ⟨su, cu, hus, hcu⟩ := hUa
 have HUA : Hid (CV w1 (.slice su (ss.getD a.st.toNat s0).2.length cu) (ss.getD a.st.toNat s0).2) := CV.keep ⟨su, cu, rfl, hcu⟩ HB01.out
 have hao : a.open U ss = [.int .i64 a.xs.length, .int .i64 (a.xs.getD 0 0), .int .i64 (a.xs.getD 1 0), .int .i64 (a.xs.getD 2 0), .int .i64 (a.xs.getD 3 0), .int .i64 (a.sv.getD 0 0), .int .i64 (a.sv.getD 1 0), .int .i64 (a.sv.getD 2 0), .int .i64 (a.sv.getD 3 0), .int .i64 a.off, .int .i64 a.st, .int .i64 (a.dt ss), .slice su (ss.getD a.st.toNat s0).2.length cu] := by
  unfold Ar.open
  rw [hus]
  rfl
 rw [hao] at hop
 have hga2 := hga.2.1
 have HGA := hide hga
 have hnu := HL.out.at a.st.toNat (by have := hga.1; omega)
 obtain ⟨dt, hDT⟩ : ∃ dt, dt = a.dt ss := ⟨_, rfl⟩
 have HDT := hide hDT
 rw [← hDT] at hop hdt HOK
 have HAX := hide (fun W => zf12 a.xs a.sv a.off ax W)
 have HWC := hide (fun W => zp7 a.xs a.sv a.off a.st dt dt (.slice su (ss.getD a.st.toNat s0).2.length cu) hga2 W)
 rw [zb12 hdt] at HWC
 unfold vw at HAX
 have HC5 := hide (small_2 ax a.xs.length (decide (offsL a.xs a.sv a.off).Nodup))
 have HNB : Hid (decide (offsL a.xs a.sv a.off).Nodup = (dcWrV a.xs a.sv a.off)) := by
  show _ = _
  exact decide_eq_decide.2 ⟨fun q => ⟨hga2, q⟩, fun q => q.2⟩
 have HHB := hide (fun (W : World) (m K : Nat) (hm : m < a.xs.length) (hK : a.xs.getD m 0 = (K : Int)) (hS : SV W (.slice sa ss.length cap) ss) (hC : CV W (.slice su (ss.getD a.st.toNat s0).2.length cu) (ss.getD a.st.toNat s0).2) (Y : List C3) (OB DB : Nat) (hO : W.cell? ⟨OB, 0, none⟩ = some (.func (.func 97) #[] #[.pointer (some ⟨DB, 0, none⟩)])) (hD : W.cell? ⟨DB, 0, none⟩ = some (.int .i64 dt)) (hK4 : K ≤ 4096) hcv hokc => zt7 8 (Nat.le_refl _) a.xs a.sv a.sv a.off a.off a.st dt dt dt a.st.toNat m K (.slice su (ss.getD a.st.toNat s0).2.length cu) (Y := Y) (dt := dt) (out := srtO dt K) hS HL.out (by have := hga.1; omega) hga2 hga.2.2 hC hnu hga2 hga.2.2 hm hK hokc enter59 (fun f g h i hi => srtO_cong f g h i hi) (sort_ofk hO hD hK4) hcv)
 rw [Int.toNat_of_nonneg hga.1.1] at HHB
 obtain ⟨nu, hNU⟩ : ∃ nu, nu = (ss.getD a.st.toNat s0).2.length := ⟨_, rfl⟩
 have HNU := hide hNU
 rw [← hNU] at hop HWC HHB
 obtain ⟨x0, hX0⟩ : ∃ x, x = a.xs.getD 0 0 := ⟨_, rfl⟩
 obtain ⟨x1, hX1⟩ : ∃ x, x = a.xs.getD 1 0 := ⟨_, rfl⟩
 obtain ⟨x2, hX2⟩ : ∃ x, x = a.xs.getD 2 0 := ⟨_, rfl⟩
 obtain ⟨x3, hX3⟩ : ∃ x, x = a.xs.getD 3 0 := ⟨_, rfl⟩
 obtain ⟨s0', hS0⟩ : ∃ x, x = a.sv.getD 0 0 := ⟨_, rfl⟩
 obtain ⟨s1, hS1⟩ : ∃ x, x = a.sv.getD 1 0 := ⟨_, rfl⟩
 obtain ⟨s2, hS2⟩ : ∃ x, x = a.sv.getD 2 0 := ⟨_, rfl⟩
 obtain ⟨s3, hS3⟩ : ∃ x, x = a.sv.getD 3 0 := ⟨_, rfl⟩
 rw [← hX0, ← hX1, ← hX2, ← hX3, ← hS0, ← hS1, ← hS2, ← hS3] at hop HAX HWC HHB
 have o0 := hop 0 _ rfl
 have o1 := hop 1 _ rfl
 have o2 := hop 2 _ rfl
 have o3 := hop 3 _ rfl
 have o4 := hop 4 _ rfl
 have o5 := hop 5 _ rfl
 have o6 := hop 6 _ rfl
 have o7 := hop 7 _ rfl
 have o8 := hop 8 _ rfl
 have o9 := hop 9 _ rfl
 have o10 := hop 10 _ rfl
 have o11 := hop 11 _ rfl
 have o12 := hop 12 _ rfl
 clear hX0 hX1 hX2 hX3 hS0 hS1 hS2 hS3 hNU hDT hao hus hcu hdd hU hcells hall hop hok hvh hga hga2 hfe hres HB01 HB0
 go_wp2_with fail
 have x9 : Ext w1 (w1.alloc (.cells #[.int .i64 a.xs.length, .int .i64 x0, .int .i64 x1, .int .i64 x2, .int .i64 x3, .int .i64 s0', .int .i64 s1, .int .i64 s2, .int .i64 s3, .int .i64 a.off, .int .i64 a.st, .int .i64 dt, .slice su nu cu] 85)) := (Ext.refl w1).alloc _ _
 have HB9 := hide (HB1.out.keep x9.bl)
 have HUA9 := hide (HUA.out.keep x9.bl)
 have n9 := fun j => ze w1 #[.int .i64 a.xs.length, .int .i64 x0, .int .i64 x1, .int .i64 x2, .int .i64 x3, .int .i64 s0', .int .i64 s1, .int .i64 s2, .int .i64 s3, .int .i64 a.off, .int .i64 a.st, .int .i64 dt, .slice su nu cu] 85 w1.heap.size rfl j
 have SA : Hid ((fun w' : World => w'.cell? ⟨w1.heap.size, 0, none⟩ = some (.int .i64 a.xs.length) ∧ w'.cell? ⟨w1.heap.size, 1, none⟩ = some (.int .i64 x0) ∧ w'.cell? ⟨w1.heap.size, 2, none⟩ = some (.int .i64 x1) ∧ w'.cell? ⟨w1.heap.size, 3, none⟩ = some (.int .i64 x2) ∧ w'.cell? ⟨w1.heap.size, 4, none⟩ = some (.int .i64 x3) ∧ w'.cell? ⟨w1.heap.size, 5, none⟩ = some (.int .i64 s0') ∧ w'.cell? ⟨w1.heap.size, 6, none⟩ = some (.int .i64 s1) ∧ w'.cell? ⟨w1.heap.size, 7, none⟩ = some (.int .i64 s2) ∧ w'.cell? ⟨w1.heap.size, 8, none⟩ = some (.int .i64 s3) ∧ w'.cell? ⟨w1.heap.size, 9, none⟩ = some (.int .i64 a.off) ∧ w'.cell? ⟨w1.heap.size, 10, none⟩ = some (.int .i64 a.st) ∧ w'.cell? ⟨w1.heap.size, 11, none⟩ = some (.int .i64 dt) ∧ w'.cell? ⟨w1.heap.size, 12, none⟩ = some (.slice su nu cu)) (w1.alloc (.cells #[.int .i64 a.xs.length, .int .i64 x0, .int .i64 x1, .int .i64 x2, .int .i64 x3, .int .i64 s0', .int .i64 s1, .int .i64 s2, .int .i64 s3, .int .i64 a.off, .int .i64 a.st, .int .i64 dt, .slice su nu cu] 85)).drew) := ⟨n9 0, n9 1, n9 2, n9 3, n9 4, n9 5, n9 6, n9 7, n9 8, n9 9, n9 10, n9 11, n9 12⟩
 have hw1 := HB1.out.sz
 clear x9 n9 o0 o1 o2 o3 o4 o5 o6 o7 o8 o9 o10 o11 o12 b0 a0 a1 a2 a3 r0 r1 f0 f1 HUA HB1
 refine zj3 (S := (fun w' : World => w'.cell? ⟨w1.heap.size, 0, none⟩ = some (.int .i64 a.xs.length) ∧ w'.cell? ⟨w1.heap.size, 1, none⟩ = some (.int .i64 x0) ∧ w'.cell? ⟨w1.heap.size, 2, none⟩ = some (.int .i64 x1) ∧ w'.cell? ⟨w1.heap.size, 3, none⟩ = some (.int .i64 x2) ∧ w'.cell? ⟨w1.heap.size, 4, none⟩ = some (.int .i64 x3) ∧ w'.cell? ⟨w1.heap.size, 5, none⟩ = some (.int .i64 s0') ∧ w'.cell? ⟨w1.heap.size, 6, none⟩ = some (.int .i64 s1) ∧ w'.cell? ⟨w1.heap.size, 7, none⟩ = some (.int .i64 s2) ∧ w'.cell? ⟨w1.heap.size, 8, none⟩ = some (.int .i64 s3) ∧ w'.cell? ⟨w1.heap.size, 9, none⟩ = some (.int .i64 a.off) ∧ w'.cell? ⟨w1.heap.size, 10, none⟩ = some (.int .i64 a.st) ∧ w'.cell? ⟨w1.heap.size, 11, none⟩ = some (.int .i64 dt) ∧ w'.cell? ⟨w1.heap.size, 12, none⟩ = some (.slice su nu cu))) (late := []) (by kernel_rfl) ?_
 generalize w1.alloc (.cells #[.int .i64 a.xs.length, .int .i64 x0, .int .i64 x1, .int .i64 x2, .int .i64 x3, .int .i64 s0', .int .i64 s1, .int .i64 s2, .int .i64 s3, .int .i64 a.off, .int .i64 a.st, .int .i64 dt, .slice su nu cu] 85) = W9 at HB9 HUA9 SA ⊢
 refine zd (i := 0) (d := 25) (v := .pointer (some ⟨w1.heap.size, 0, none⟩)) rfl (by rfl) (by kernel_rfl) (by kernel_rfl) (fun _ _ _ h => by cases h.1) _ (by kernel_rfl) (by kernel_rfl) (Or.inl ⟨by kernel_rfl, ?_⟩) SA.out ?_
 ·intro w' h
  obtain ⟨z0, z1, z2, z3, z4, z5, z6, z7, z8, z9, z10, z11, z12⟩ := h
  go_simp
 simp only [Act.put, sT, sZ, sS]
 refine zd (i := 1) (d := 26) (v := .agg #[.int .i64 a.xs.length, .int .i64 x0, .int .i64 x1, .int .i64 x2, .int .i64 x3, .int .i64 s0', .int .i64 s1, .int .i64 s2, .int .i64 s3, .int .i64 a.off]) rfl (by rfl) (by kernel_rfl) (by kernel_rfl) (fun _ _ _ h => by cases h.1) _ (by kernel_rfl) (by kernel_rfl) (Or.inl ⟨by kernel_rfl, ?_⟩) SA.out ?_
 ·intro w' h
  obtain ⟨z0, z1, z2, z3, z4, z5, z6, z7, z8, z9, z10, z11, z12⟩ := h
  go_simp
 simp only [Act.put, sT, sZ, sS]
 refine zd (i := 2) (d := 27) (v := .int .i64 ax) rfl (by rfl) (by kernel_rfl) (by kernel_rfl) (fun _ _ _ h => by cases h.1) _ (by kernel_rfl) (by kernel_rfl) (Or.inl ⟨by kernel_rfl, ?_⟩) SA.out ?_
 ·intro w' h
  obtain ⟨z0, z1, z2, z3, z4, z5, z6, z7, z8, z9, z10, z11, z12⟩ := h
  go_simp
 simp only [Act.put, sT, sZ, sS]
 refine zd (i := 4) (d := 29) (v := .agg #[.int .i64 a.xs.length, .int .i64 x0, .int .i64 x1, .int .i64 x2, .int .i64 x3, .int .i64 s0', .int .i64 s1, .int .i64 s2, .int .i64 s3, .int .i64 a.off, .int .i64 a.st, .int .i64 dt, .slice su nu cu]) rfl (by rfl) (by kernel_rfl) (by kernel_rfl) (fun _ _ _ h => by cases h.1) _ (by kernel_rfl) (by kernel_rfl) (Or.inl ⟨by kernel_rfl, ?_⟩) SA.out ?_
 ·intro w' h
  obtain ⟨z0, z1, z2, z3, z4, z5, z6, z7, z8, z9, z10, z11, z12⟩ := h
  go_simp
 simp only [Act.put, sT, sZ, sS]
 refine zd (i := 5) (d := 30) (v := .pointer (some ⟨w1.heap.size, 11, none⟩)) rfl (by rfl) (by kernel_rfl) (by kernel_rfl) (fun _ _ _ h => by cases h.1) _ (by kernel_rfl) (by kernel_rfl) (Or.inl ⟨by kernel_rfl, ?_⟩) SA.out ?_
 ·intro w' h
  obtain ⟨z0, z1, z2, z3, z4, z5, z6, z7, z8, z9, z10, z11, z12⟩ := h
  go_simp
 simp only [Act.put, sT, sZ, sS]
 refine zd (i := 6) (d := 31) (v := .int .i64 dt) rfl (by rfl) (by kernel_rfl) (by kernel_rfl) (fun _ _ _ h => by cases h.1) _ (by kernel_rfl) (by kernel_rfl) (Or.inl ⟨by kernel_rfl, ?_⟩) SA.out ?_
 ·intro w' h
  obtain ⟨z0, z1, z2, z3, z4, z5, z6, z7, z8, z9, z10, z11, z12⟩ := h
  go_simp
 simp only [Act.put, sT, sZ, sS]
 refine zg (i := 3) (by kernel_rfl) rfl (fun K hK => ?_)
 go_simp
 refine (HAX.out _).mono ?_
 rintro e t1 ⟨rfl, y1⟩
 have XB : Hid (Bel W9 t1) := Bel.tr (show Bel W9 W9.drew from (Below.refl _ _).drew) y1.bl
 have SB : Hid ((fun w' : World => w'.cell? ⟨w1.heap.size, 0, none⟩ = some (.int .i64 a.xs.length) ∧ w'.cell? ⟨w1.heap.size, 1, none⟩ = some (.int .i64 x0) ∧ w'.cell? ⟨w1.heap.size, 2, none⟩ = some (.int .i64 x1) ∧ w'.cell? ⟨w1.heap.size, 3, none⟩ = some (.int .i64 x2) ∧ w'.cell? ⟨w1.heap.size, 4, none⟩ = some (.int .i64 x3) ∧ w'.cell? ⟨w1.heap.size, 5, none⟩ = some (.int .i64 s0') ∧ w'.cell? ⟨w1.heap.size, 6, none⟩ = some (.int .i64 s1) ∧ w'.cell? ⟨w1.heap.size, 7, none⟩ = some (.int .i64 s2) ∧ w'.cell? ⟨w1.heap.size, 8, none⟩ = some (.int .i64 s3) ∧ w'.cell? ⟨w1.heap.size, 9, none⟩ = some (.int .i64 a.off) ∧ w'.cell? ⟨w1.heap.size, 10, none⟩ = some (.int .i64 a.st) ∧ w'.cell? ⟨w1.heap.size, 11, none⟩ = some (.int .i64 dt) ∧ w'.cell? ⟨w1.heap.size, 12, none⟩ = some (.slice su nu cu)) t1) := ⟨y1.box (SA.out.1), y1.box (SA.out.2.1), y1.box (SA.out.2.2.1), y1.box (SA.out.2.2.2.1), y1.box (SA.out.2.2.2.2.1), y1.box (SA.out.2.2.2.2.2.1), y1.box (SA.out.2.2.2.2.2.2.1), y1.box (SA.out.2.2.2.2.2.2.2.1), y1.box (SA.out.2.2.2.2.2.2.2.2.1), y1.box (SA.out.2.2.2.2.2.2.2.2.2.1), y1.box (SA.out.2.2.2.2.2.2.2.2.2.2.1), y1.box (SA.out.2.2.2.2.2.2.2.2.2.2.2.1), y1.box (SA.out.2.2.2.2.2.2.2.2.2.2.2.2)⟩
 refine hK.out _ _ (fun _ => SB.out) ?_
 clear hK K y1 SA HAX
 try simp only [Act.put, sT, sZ, sS]
 refine zg (i := 7) (by kernel_rfl) rfl (fun K hK => ?_)
 go_simp
 refine (HWC.out _).mono ?_
 rintro e t2 ⟨rfl, y2⟩
 replace XB := hide (Bel.tr XB.out y2)
 have SC : Hid ((fun w' : World => w'.cell? ⟨w1.heap.size, 0, none⟩ = some (.int .i64 a.xs.length) ∧ w'.cell? ⟨w1.heap.size, 1, none⟩ = some (.int .i64 x0) ∧ w'.cell? ⟨w1.heap.size, 2, none⟩ = some (.int .i64 x1) ∧ w'.cell? ⟨w1.heap.size, 3, none⟩ = some (.int .i64 x2) ∧ w'.cell? ⟨w1.heap.size, 4, none⟩ = some (.int .i64 x3) ∧ w'.cell? ⟨w1.heap.size, 5, none⟩ = some (.int .i64 s0') ∧ w'.cell? ⟨w1.heap.size, 6, none⟩ = some (.int .i64 s1) ∧ w'.cell? ⟨w1.heap.size, 7, none⟩ = some (.int .i64 s2) ∧ w'.cell? ⟨w1.heap.size, 8, none⟩ = some (.int .i64 s3) ∧ w'.cell? ⟨w1.heap.size, 9, none⟩ = some (.int .i64 a.off) ∧ w'.cell? ⟨w1.heap.size, 10, none⟩ = some (.int .i64 a.st) ∧ w'.cell? ⟨w1.heap.size, 11, none⟩ = some (.int .i64 dt) ∧ w'.cell? ⟨w1.heap.size, 12, none⟩ = some (.slice su nu cu)) t2) := ⟨Bel.box y2 (SB.out.1), Bel.box y2 (SB.out.2.1), Bel.box y2 (SB.out.2.2.1), Bel.box y2 (SB.out.2.2.2.1), Bel.box y2 (SB.out.2.2.2.2.1), Bel.box y2 (SB.out.2.2.2.2.2.1), Bel.box y2 (SB.out.2.2.2.2.2.2.1), Bel.box y2 (SB.out.2.2.2.2.2.2.2.1), Bel.box y2 (SB.out.2.2.2.2.2.2.2.2.1), Bel.box y2 (SB.out.2.2.2.2.2.2.2.2.2.1), Bel.box y2 (SB.out.2.2.2.2.2.2.2.2.2.2.1), Bel.box y2 (SB.out.2.2.2.2.2.2.2.2.2.2.2.1), Bel.box y2 (SB.out.2.2.2.2.2.2.2.2.2.2.2.2)⟩
 refine hK.out _ _ (fun _ => SC.out) ?_
 clear hK K y2 SB HWC
 try simp only [Act.put, sT, sZ, sS]
 have HAL := hide (zj4 t2 (axC ax a.xs.length) (wrC (decide (offsL a.xs a.sv a.off).Nodup) true) 2)
 have HC6 := hide HC5.out
 rw [HNB.out] at HAL HC6 ⊢
 generalize axC ax a.xs.length = k1 at HAL HC6 ⊢
 generalize wrC (dcWrV a.xs a.sv a.off) true = k2 at HAL HC6 ⊢
 refine zg (i := 8) (by kernel_rfl) rfl (fun K hK => ?_)
 go_simp
 have y3 : Ext t2 (t2.alloc (.cells #[.int .i64 k1, .int .i64 k2] 2)) := (Ext.refl t2).alloc _ _
 have SD : Hid ((fun w' : World => w'.cell? ⟨w1.heap.size, 0, none⟩ = some (.int .i64 a.xs.length) ∧ w'.cell? ⟨w1.heap.size, 1, none⟩ = some (.int .i64 x0) ∧ w'.cell? ⟨w1.heap.size, 2, none⟩ = some (.int .i64 x1) ∧ w'.cell? ⟨w1.heap.size, 3, none⟩ = some (.int .i64 x2) ∧ w'.cell? ⟨w1.heap.size, 4, none⟩ = some (.int .i64 x3) ∧ w'.cell? ⟨w1.heap.size, 5, none⟩ = some (.int .i64 s0') ∧ w'.cell? ⟨w1.heap.size, 6, none⟩ = some (.int .i64 s1) ∧ w'.cell? ⟨w1.heap.size, 7, none⟩ = some (.int .i64 s2) ∧ w'.cell? ⟨w1.heap.size, 8, none⟩ = some (.int .i64 s3) ∧ w'.cell? ⟨w1.heap.size, 9, none⟩ = some (.int .i64 a.off) ∧ w'.cell? ⟨w1.heap.size, 10, none⟩ = some (.int .i64 a.st) ∧ w'.cell? ⟨w1.heap.size, 11, none⟩ = some (.int .i64 dt) ∧ w'.cell? ⟨w1.heap.size, 12, none⟩ = some (.slice su nu cu)) (t2.alloc (.cells #[.int .i64 k1, .int .i64 k2] 2))) := ⟨y3.box (SC.out.1), y3.box (SC.out.2.1), y3.box (SC.out.2.2.1), y3.box (SC.out.2.2.2.1), y3.box (SC.out.2.2.2.2.1), y3.box (SC.out.2.2.2.2.2.1), y3.box (SC.out.2.2.2.2.2.2.1), y3.box (SC.out.2.2.2.2.2.2.2.1), y3.box (SC.out.2.2.2.2.2.2.2.2.1), y3.box (SC.out.2.2.2.2.2.2.2.2.2.1), y3.box (SC.out.2.2.2.2.2.2.2.2.2.2.1), y3.box (SC.out.2.2.2.2.2.2.2.2.2.2.2.1), y3.box (SC.out.2.2.2.2.2.2.2.2.2.2.2.2)⟩
 refine hK.out _ _ (fun _ => SD.out) ?_
 clear hK K SC
 replace XB := hide (Bel.tr XB.out y3.bl)
 clear y3
 try simp only [Act.put, sT, sZ, sS]
 refine zg (i := 9) (by kernel_rfl) rfl (fun K hK => ?_)
 go_simp
 refine (zf2 (cap := 2) HAL.out (by simp)).mono ?_
 rintro e t4 ⟨rfl, rfl⟩
 rw [HC6.out]
 refine hK.out _ _ (fun _ => SD.out) ?_
 clear hK K
 try simp only [Act.put, sT, sZ, sS]
 have hcode : Hid ((if ax < 0 ∨ (a.xs.length : Int) ≤ ax then 5 else if (dcWrV a.xs a.sv a.off) = true then 0 else 9) = sortC ss a ax) := by
  show _ = _
  rw [hc5.out]
  simp only [decide_eq_true_eq, show ((dcWrV a.xs a.sv a.off) = true) = WrV a.xs a.sv a.off from decide_eq_true_eq]
 rw [hcode.out]
 refine zd (i := 10) (d := 8) (v := .int .i64 (sortC ss a ax)) rfl (by rfl) (by kernel_rfl) (by kernel_rfl) (fun _ _ _ h => by cases h.1) _ (by kernel_rfl) (by kernel_rfl) (Or.inl ⟨by kernel_rfl, ?_⟩) SD.out ?_
 ·intro w' h
  obtain ⟨z0, z1, z2, z3, z4, z5, z6, z7, z8, z9, z10, z11, z12⟩ := h
  go_simp
 simp only [Act.put, sT, sZ, sS]
 refine zh (by kernel_rfl) ?_ _
 refine ⟨rfl, ?_⟩
 generalize t2.alloc (.cells #[.int .i64 k1, .int .i64 k2] 2) = T at SD XB ⊢
 have HBT := hide (HB9.out.keep XB.out)
 have HUT := hide (HUA9.out.keep XB.out)
 have b0 := HBT.out.h
 have a0 := HBT.out.a 0 _ rfl
 have a1 := HBT.out.a 1 _ rfl
 have a2 := HBT.out.a 2 _ rfl
 have a3 := HBT.out.a 3 _ rfl
 have r0 := HBT.out.r0
 have r1 := HBT.out.r1
 have f0 := HBT.out.fz 0
 have f1 := HBT.out.fz 1
 have o0 := SD.out.1
 have o1 := SD.out.2.1
 have o2 := SD.out.2.2.1
 have o3 := SD.out.2.2.2.1
 have o4 := SD.out.2.2.2.2.1
 have o5 := SD.out.2.2.2.2.2.1
 have o6 := SD.out.2.2.2.2.2.2.1
 have o7 := SD.out.2.2.2.2.2.2.2.1
 have o8 := SD.out.2.2.2.2.2.2.2.2.1
 have o9 := SD.out.2.2.2.2.2.2.2.2.2.1
 have o10 := SD.out.2.2.2.2.2.2.2.2.2.2.1
 have o11 := SD.out.2.2.2.2.2.2.2.2.2.2.2.1
 have o12 := SD.out.2.2.2.2.2.2.2.2.2.2.2.2
 clear HAL HC6 HC5 HNB SD XB HB9 HUA9
 generalize hsc : sortC ss a ax = sc at hc5 ⊢
 by_cases hs0 : sc ≠ 0
 ·have hne : (sc == 0) = false := by rw [beq_eq_false_iff_ne]; exact hs0
  have hok := hide hsc.symm
  clear hsc hc5 hcode HHB
  go_wp2
  refine bodyPost_ret (v := .agg #[.int .i64 sc, .slice none 0 0]) (by simp [results, Tryz.results20, go_sem, r0, r1]) rfl ⟨sc, _, [], rfl, ⟨hok.out, .inl ⟨hs0, rfl⟩⟩, .inl ⟨rfl, rfl⟩, by (first | exact (HBT.out.bl.setCell (p := ⟨w.heap.size + 1 + 1, 0, none⟩) (by show _ ≤ w.heap.size + 1 + 1; omega) _).setCell (p := ⟨w.heap.size + 1 + 1, 1, none⟩) (by show _ ≤ w.heap.size + 1 + 1; omega) _ | exact HBT.out.bl.setCell (p := ⟨w.heap.size + 1 + 1, 0, none⟩) (by show _ ≤ w.heap.size + 1 + 1; omega) _)⟩
 have hs00 : sc = 0 := by omega
 subst hs00
 go_wp2_with fail
 refine (zx12 T dt).mono ?_
 rintro e T2 ⟨rfl, hD2, y5⟩
 have x6 : Ext T2 (T2.alloc (.cells #[.func (.func 97) #[] #[.pointer (some ⟨T.heap.size, 0, none⟩)]] 109)) := (Ext.refl T2).alloc _ _
 have HB6 := hide (HBT.out.keep (y5.trans x6).bl)
 have HU6 := hide (HUT.out.keep (y5.trans x6).bl)
 have HD6 := hide (x6.box hD2)
 have HO6 := hide (ze T2 #[.func (.func 97) #[] #[.pointer (some ⟨T.heap.size, 0, none⟩)]] 109 T2.heap.size rfl 0)
 have yx := y5.trans x6
 replace o0 := yx.box o0
 replace o1 := yx.box o1
 replace o2 := yx.box o2
 replace o3 := yx.box o3
 replace o4 := yx.box o4
 replace o5 := yx.box o5
 replace o6 := yx.box o6
 replace o7 := yx.box o7
 replace o8 := yx.box o8
 replace o9 := yx.box o9
 replace o10 := yx.box o10
 replace o11 := yx.box o11
 replace o12 := yx.box o12
 clear hD2 y5 x6 yx HBT HUT b0 a0 a1 a2 a3 r0 r1 f0 f1
 have b0 := HB6.out.h
 have a0 := HB6.out.a 0 _ rfl
 have a1 := HB6.out.a 1 _ rfl
 have a2 := HB6.out.a 2 _ rfl
 have a3 := HB6.out.a 3 _ rfl
 have r0 := HB6.out.r0
 have r1 := HB6.out.r1
 have f0 := HB6.out.fz 0
 have f1 := HB6.out.fz 1
 obtain ⟨hxr, hw⟩ : ¬ (ax < 0 ∨ (a.xs.length : Int) ≤ ax) ∧ WrV a.xs a.sv a.off := by
  have q := hc5.out
  by_cases z : ax < 0 ∨ (a.xs.length : Int) ≤ ax
  ·rw [if_pos z] at q; omega
  ·rw [if_neg z] at q
   by_cases z2 : WrV a.xs a.sv a.off
   ·exact ⟨z, z2⟩
   ·rw [if_neg z2] at q; omega
 obtain ⟨m, hm⟩ : ∃ m : Nat, ax = (m : Int) := ⟨ax.toNat, by omega⟩
 subst hm
 have hml : m < a.xs.length := by omega
 have hga := HGA.out
 have hgn := zu hga.2.1.1
 have hKb := zd2 hgn m hml
 obtain ⟨K, hKe⟩ : ∃ K : Nat, K = (a.xs.getD m 0).toNat := ⟨_, rfl⟩
 have hKK : a.xs.getD m 0 = (K : Int) := by omega
 have hrl : (a.rd ss).length = (offsL a.xs a.sv a.off).length := by unfold Ar.rd readL; rw [List.length_map]
 have hRK : plen a.xs = plen (a.xs.eraseIdx m) * K := by rw [zi2 m a.xs hml, hKe]
 have hpp := zr (fun n hn => (hgn n hn).1)
 have hcnt := zw hga.2.1
 have hzj : ∀ j, j < (a.rd ss).length → (ZL (srtO dt K) ((offsL (mvL m a.xs) (mvL m a.sv) a.off).map fun p => (ss.getD a.st.toNat s0).2.getD p.toNat k0) K (plen (a.xs.eraseIdx m))).getD j k0 = srtQ dt (a.rd ss) a.xs m (kapJ m a.xs j) ∧ OkC dt (srtQ dt (a.rd ss) a.xs m (kapJ m a.xs j)) := fun j hj => by
  have hz : prod a.xs ≠ 0 := fun e => by
   rw [e] at hcnt
   have : (0 : Int).toNat = 0 := rfl
   omega
  rw [hKe]
  exact ⟨ZL_sort hga hml hz dt hj, srtQ_ok hga hml hz HOK.out _⟩
 have hokc : ∀ p ∈ offsL a.xs a.sv a.off, OkC dt ((ss.getD a.st.toNat s0).2.getD p.toNat k0) := fun p hp => by
  obtain ⟨j, hj, e⟩ := List.getElem_of_mem hp
  have q := HOK.out j (by omega)
  unfold Ar.rd readL at q
  rw [map_at hj, List.getD_eq_getElem?_getD (l := offsL a.xs a.sv a.off), List.getElem?_eq_getElem hj, Option.getD_some, e] at q
  exact q
 have HC := hide (HHB.out _ m K hml hKK (HH.out.keep HB6.out.bl) (by rw [← HNU.out] at HU6; exact HU6.out) (ZL (srtO dt K) ((offsL (mvL m a.xs) (mvL m a.sv) a.off).map fun p => (ss.getD a.st.toNat s0).2.getD p.toNat k0) K (plen (a.xs.eraseIdx m))) T2.heap.size T.heap.size HO6.out HD6.out (by omega) (fun j hj W => by
  have q := hzj j (by omega)
  rw [q.1]
  exact iConvD q.2 hdt W) hokc)
 have HPUT : Hid (SortOk ss a (m : Int) 0 (putT ss a.st.toNat (offsL (mvL m a.xs) (mvL m a.sv) a.off) (ZL (srtO dt K) ((offsL (mvL m a.xs) (mvL m a.sv) a.off).map fun p => (ss.getD a.st.toNat s0).2.getD p.toNat k0) K (plen (a.xs.eraseIdx m))) (offsL (mvL m a.xs) (mvL m a.sv) a.off).length)) := by
  refine ⟨hsc.symm, Or.inr ⟨rfl, ?_⟩⟩
  refine put_mv hga hml hw (by rw [zs5]; show _ = (offsL a.xs a.sv a.off).length; omega) fun j hj => ?_
  rw [zs5] at hj
  have q := hzj j (by omega)
  rw [q.1, Int.toNat_natCast, ← HDT.out]
  exact ⟨C3.Sm.refl _, ok_cg q.2⟩
 have hs6 := HB6.out.sz
 clear hzj hokc hcnt hpp hRK hrl hKK hKe hKb hgn hga hw hxr hsc hc5 hcode HHB HO6 HD6 hs0 hdt hnu
 generalize offsL (mvL m a.xs) (mvL m a.sv) a.off = OL at HC HPUT
 go_wp2_with fail
 refine (callsIn_wide.1 HC.out).mono ?_
 rintro e T4 ⟨g4, cb4, rfl, hO4, hB4⟩
 have HB7 := hide (HB6.out.keep hB4)
 have HO4 := hide hO4
 clear hO4 hB4 HC b0 a0 a1 a2 a3 r0 r1 f0 f1 o0 o1 o2 o3 o4 o5 o6 o7 o8 o9 o10 o11 o12
 have b0 := HB7.out.h
 have a0 := HB7.out.a 0 _ rfl
 have a1 := HB7.out.a 1 _ rfl
 have a2 := HB7.out.a 2 _ rfl
 have a3 := HB7.out.a 3 _ rfl
 have r0 := HB7.out.r0
 have r1 := HB7.out.r1
 have f0 := HB7.out.fz 0
 have f1 := HB7.out.fz 1
 go_wp2
 refine bodyPost_ret (v := .agg #[.int .i64 0, .slice (some ⟨g4, 0, none⟩) ss.length ss.length]) (by simp [results, Tryz.results20, go_sem, r0, r1]) rfl ⟨0, _, _, rfl, HPUT.out, Or.inr ⟨g4, ss.length, cb4, by rw [zm], ?_⟩, by (first | exact (HB7.out.bl.setCell (p := ⟨w.heap.size + 1 + 1, 0, none⟩) (by show _ ≤ w.heap.size + 1 + 1; omega) _).setCell (p := ⟨w.heap.size + 1 + 1, 1, none⟩) (by show _ ≤ w.heap.size + 1 + 1; omega) _ | exact HB7.out.bl.setCell (p := ⟨w.heap.size + 1 + 1, 0, none⟩) (by show _ ≤ w.heap.size + 1 + 1; omega) _)⟩
 refine HOwn.lower (lo := (T2.alloc (.cells #[.func (.func 97) #[] #[.pointer (some ⟨T.heap.size, 0, none⟩)]] 109)).heap.size) ?_ (by omega)
 first
  | exact (HO4.out.low (by omega)).low (by omega)
  | exact HO4.out.low (by omega)
end
end Go.Proofs.YtfhcpicddegblaaGreat
