import Derived.Test.YtjbbodfdpbcnhaaGreatM4
import Derived.Deep.RegionHeld3
import Derived.Deep.AppendLies
import Derived.Test.YtjbbodfdpbcnhaaGreatM1
import Derived.Laws.DeepNot64
import Derived.RegionTactic
import Derived.OwnWalk
import Derived.KernelRfl
import Derived.Test.YtjbbodfdpbcnhaaGreatM2
set_option linter.unusedSimpArgs false
set_option linter.unusedVariables false
set_option maxRecDepth 100000
set_option maxHeartbeats 8000000
namespace Go.Proofs.YtjbbodfdpbcnhaaGreat
open List renaming setIfInBounds_toArray → sT, set_cons_zero → sZ, set_cons_succ → sS
open Go.Value renaming int → O, slice → σ, pointer → π, agg → γ
open Go.IntKind renaming i64 → ι
open Go.Obj renaming cells → χ
open Go.Act renaming put → aP
section
open Go.ChangeShapes Go.RowKit Go.Shelf
attribute [local go_sem] Oper.semAt_some
theorem zp8 (W : World) (P : Int) (h0 : 0 ≤ P) (h1 : P ≤ 4096) : (Instr.makeSlice 39 (O ι 0) (O ι P)).run Tryz.prog W = .ok (σ (some ⟨W.heap.size, 0, none⟩) 0 P.toNat) (W.alloc (χ (madeCells #[O ι 0, .float .f64 0, .float .f64 0] (P.toNat * 3)) 47)) := by
 obtain ⟨i0, hi0, hz0, hz1, hz2⟩ := info_parts zk4
 have h := run_make (P := Tryz.prog) W 39 47 i0 (γ #[O ι 0, .float .f64 0, .float .f64 0]) Tryz.underlying39 hi0 hz0 .i64 .i64 0 P (by omega) (by omega) (by rw [hz2]; omega) (by omega)
 rw [hz1] at h
 exact h
structure RSt (W2 W0 : World) (b P : Nat) : Prop where
 size : W0.heap.size = b + 3
 box : Boxed W0 (b + 1) 39 (σ (some ⟨b, 0, none⟩) 0 P)
 row : W0.ownsRow b 47 3 (σ (some ⟨b, 0, none⟩) 0 P) 0 []
 bl : Below b W2 W0
theorem RSt.start {w2 : World} {b P : Nat} (hs : w2.heap.size = b) (hP : P ≤ 4096) (V : Array Value) :
  RSt w2 (((w2.alloc (χ (madeCells #[O ι 0, .float .f64 0, .float .f64 0] (P * 3)) 47)).alloc (χ #[σ (some ⟨b, 0, none⟩) 0 P] 39)).alloc (.cells V 65)) b P := by
 have hb : Below b w2 w2 := Below.refl _ _
 refine ⟨by simp; omega, ?_, ?_, ((hb.alloc (by omega) _).alloc (by simp; omega) _).alloc (by simp; omega) _⟩
 ·have h := (Boxed.new (w2.alloc (χ (madeCells #[O ι 0, .float .f64 0, .float .f64 0] (P * 3)) 47)) 39 (σ (some ⟨b, 0, none⟩) 0 P)).alloc (.cells V 65)
  rw [World.size_alloc, hs] at h
  exact h
 ·refine World.ownsRow.alloc (World.ownsRow.alloc ?_ _) _
  have h := World.ownsRow_made (base := b) (e := 47) (size := 3) w2 (madeCells #[O ι 0, .float .f64 0, .float .f64 0] (P * 3)) P (by omega) (by unfold maxLen; omega) (by simp [madeCells])
  rw [hs] at h
  exact h
def CellsCap (w : World) (cs : List C3) (e : Ending) (w' : World) : Prop := ∃ (sa : Option Addr) (cap : Nat), e = .returned (σ sa cs.length cap) ∧ OwnC w' w.heap.size sa cs ∧ Below w.heap.size w w' ∧ cs.length ≤ cap
theorem zk9 (n : Nat) (hn : 3 ≤ n) (xs ss : List Int) (off st dt : Int) {w : World} {su : Option Addr} {cu : Nat} {cs : List C3} (hcv : CV w (σ su cs.length cu) cs) (hlc : cs.length ≤ 1048576) (hv : ValidV xs ss off) (hin : ∀ p ∈ offsL xs ss off, p < (cs.length : Int)) :
  CallsIn Fence.wide n Tryz.prog 28 #[γ #[O ι xs.length, O ι (xs.getD 0 0), O ι (xs.getD 1 0), O ι (xs.getD 2 0), O ι (xs.getD 3 0), O ι (ss.getD 0 0), O ι (ss.getD 1 0), O ι (ss.getD 2 0), O ι (ss.getD 3 0), O ι off, O ι st, O ι dt, σ su cs.length cu]] w fun e w' => CellsCap w ((offsL xs ss off).map fun p => cs.getD p.toNat k0) e w' := by
 have hdd : ∀ k : Nat, (Fence.wide.depth.isSome = true → 1 ≤ k) := fun k h => by cases h
 have hl4 := hv.1.1
 have hpb : 0 ≤ prod xs ∧ prod xs ≤ 4096 := ⟨by have := zc1 (fun m hm => (zx hv.1 m hm).1); omega, hv.1.2.2⟩
 have hcnt := hide (fun W => zp1 W xs hv.1.1 hv.1.2.1)
 have hpl := hide (fun n W => zb4 n xs ss off W)
 have hst := hide (fun n Bf W hB => zq13 (cs.length : Int) n Bf xs ss off hv.1.1 hv.2.1 hv.1.2.1 hv.1.2.2 hv.2.2.2.1 hv.2.2.1 (fun x hx => ⟨(zj3 hv x hx).1, hin x hx⟩) W hB)
 have hOP := zx13 hv
 clear hv hin
 have hmk := fun W => zp8 W (prod xs) hpb.1 hpb.2
 unfold vw at hpl hst
 unfold shp at hcnt
 generalize hOL : offsL xs ss off = OL at hst hOP
 have HOL := hide hOL
 clear hOL
 generalize xs.getD 0 0 = a0 at *
 generalize xs.getD 1 0 = a1 at *
 generalize xs.getD 2 0 = a2 at *
 generalize xs.getD 3 0 = a3 at *
 generalize ss.getD 0 0 = s0 at *
 generalize ss.getD 1 0 = s1 at *
 generalize ss.getD 2 0 = s2 at *
 generalize ss.getD 3 0 = s3 at *
 generalize hP : prod xs = P at *
 have HP := hide hP
 clear hP
 have hs2 : ((w.alloc (χ #[O ι xs.length, O ι a0, O ι a1, O ι a2, O ι a3, O ι s0, O ι s1, O ι s2, O ι s3, O ι off, O ι st, O ι dt, σ su cs.length cu] 67)).alloc (χ #[O ι xs.length, O ι a0, O ι a1, O ι a2, O ι a3] 63)).heap.size = w.heap.size + 1 + 1 := by simp
 have x2 : Ext w ((w.alloc (χ #[O ι xs.length, O ι a0, O ι a1, O ι a2, O ι a3, O ι s0, O ι s1, O ι s2, O ι s3, O ι off, O ι st, O ι dt, σ su cs.length cu] 67)).alloc (χ #[O ι xs.length, O ι a0, O ι a1, O ι a2, O ι a3] 63)) := ((Ext.refl w).alloc _ _).alloc _ _
 have c12 : ((w.alloc (χ #[O ι xs.length, O ι a0, O ι a1, O ι a2, O ι a3, O ι s0, O ι s1, O ι s2, O ι s3, O ι off, O ι st, O ι dt, σ su cs.length cu] 67)).alloc (χ #[O ι xs.length, O ι a0, O ι a1, O ι a2, O ι a3] 63)).cell? ⟨w.heap.size, 12, none⟩ = some (σ su cs.length cu) := ((Ext.refl (w.alloc (χ #[O ι xs.length, O ι a0, O ι a1, O ι a2, O ι a3, O ι s0, O ι s1, O ι s2, O ι s3, O ι off, O ι st, O ι dt, σ su cs.length cu] 67))).alloc _ _).box (zg w #[O ι xs.length, O ι a0, O ι a1, O ι a2, O ι a3, O ι s0, O ι s1, O ι s2, O ι s3, O ι off, O ι st, O ι dt, σ su cs.length cu] 67 w.heap.size rfl 12)
 have O0 := hide (RSt.start hs2 (show P.toNat ≤ 4096 by omega) #[O ι xs.length, O ι a0, O ι a1, O ι a2, O ι a3, O ι s0, O ι s1, O ι s2, O ι s3, O ι off])
 have hst2 := hide (hst.out (n - 1) (w.heap.size + 1 + 1 + 1 + 1) ((((w.alloc (χ #[O ι xs.length, O ι a0, O ι a1, O ι a2, O ι a3, O ι s0, O ι s1, O ι s2, O ι s3, O ι off, O ι st, O ι dt, σ su cs.length cu] 67)).alloc (χ #[O ι xs.length, O ι a0, O ι a1, O ι a2, O ι a3] 63)).alloc (χ (madeCells #[O ι 0, .float .f64 0, .float .f64 0] (P.toNat * 3)) 47)).alloc (χ #[σ (some ⟨w.heap.size + 1 + 1, 0, none⟩) 0 P.toNat] 39)) (by simp))
 have X2 := hide x2.bl
 have HC12 := hide c12
 have HCV := hide hcv
 have Hs2 := hide hs2
 clear hst x2 c12 hcv hs2
 refine callsIn_of_wp_marks Tryz.func28 rfl trivial ?_ rfl
 simp only [Tryz.ntmps28, List.size_toArray, List.length_cons, List.length_nil, Nat.reduceAdd, Nat.reduceSub, Array.replicate_succ, Array.replicate_zero, List.push_toArray, List.append_toArray, List.nil_append, List.cons_append]
 gi_wp2
 refine ⟨trivial, hdd _, ?_⟩
 refine (callsIn_wide.2 (hcnt.out _)).mono ?_
 rintro e w2 ⟨rfl, hw2⟩
 have hmk2 := hmk w2
 gi_wp2
 refine ⟨trivial, hdd _, ?_⟩
 refine (hpl.out _ _).mono ?_
 rintro e w' ⟨rfl, rfl⟩
 clear hpl hmk2 hmk hcnt hw2
 have h1 : 1 ≤ n := by omega
 gi_wp2
 generalize hW0 : World.alloc ((((w.alloc (χ #[O ι xs.length, O ι a0, O ι a1, O ι a2, O ι a3, O ι s0, O ι s1, O ι s2, O ι s3, O ι off, O ι st, O ι dt, σ su cs.length cu] 67)).alloc (χ #[O ι xs.length, O ι a0, O ι a1, O ι a2, O ι a3] 63)).alloc _).alloc _) _ = W0 at O0 hst2 ⊢
 clear hW0
 generalize hW2 : ((w.alloc (χ #[O ι xs.length, O ι a0, O ι a1, O ι a2, O ι a3, O ι s0, O ι s1, O ι s2, O ι s3, O ι off, O ι st, O ι dt, σ su cs.length cu] 67)).alloc (χ #[O ι xs.length, O ι a0, O ι a1, O ι a2, O ι a3] 63)) = W2 at O0 X2 HC12 Hs2
 clear hW2
 have hsz := O0.out.size
 have hs2 := Hs2.out
 have hbl := O0.out.bl
 rw [← hs2] at hbl
 obtain ⟨i0, hi0, hz0, hz1, hz2⟩ := info_parts zk4
 refine wpIn_rangeFunc_ownF rfl h1 (gf := 65) (lb := #[π (some ⟨w.heap.size + 1 + 1 + 1 + 1, 0, none⟩)]) rfl trivial (enters_of Tryz.func65 (by kernel_rfl) rfl)
  hst2.out (fun h k => KC.trans h k) (fun W l o o' h1 h2 h3 h4 => zx16 W l o o' h1 h2 h3 h4) (Below.refl _ _) (fun _ => rfl)
  (fun pre W => (∃ v, Boxed W (w.heap.size + 1 + 1 + 1) 39 v ∧ W.ownsRow (w.heap.size + 1 + 1) 47 3 v pre.length (flat ((pnv pre).map fun p => cs.getD p.toNat k0)) ∧ v = σ (some ⟨w.heap.size + 1 + 1, 0, none⟩) pre.length P.toNat) ∧ Below W2.heap.size W2 W)
  (fun _ _ _ => False)
  (OwnFrom.and (Own.from (holdsRow_own (w.heap.size + 1 + 1) (w.heap.size + 1 + 1 + 1) 39 47 3 (fun pre : List (PlN (cs.length : Int)) => pre.length) (fun pre => flat ((pnv pre).map fun p => cs.getD p.toNat k0)) (fun pre v => v = σ (some ⟨w.heap.size + 1 + 1, 0, none⟩) pre.length P.toNat)) _) (ownFrom_below (Nat.le_refl _) (by omega)))
  (fun _ _ _ _ _ hs _ _ => hs)
  ⟨⟨_, O0.out.box, O0.out.row, rfl⟩, hbl⟩
  (fun x => { tmps := #[γ #[O ι xs.length, O ι a0, O ι a1, O ι a2, O ι a3, O ι s0, O ι s1, O ι s2, O ι s3, O ι off, O ι st, O ι dt, σ su cs.length cu], π (some ⟨w.heap.size, 0, none⟩), σ none 0 0, π (some ⟨w.heap.size + 1 + 1 + 1, 0, none⟩), O ι x.1, π (some ⟨w.heap.size, 0, none⟩), π (some ⟨w.heap.size, 0, none⟩), γ #[O ι xs.length, O ι a0, O ι a1, O ι a2, O ι a3], O ι P, σ (some ⟨w.heap.size + 1 + 1, 0, none⟩) 0 P.toNat, π (some ⟨w.heap.size, 0, none⟩), γ #[O ι xs.length, O ι a0, O ι a1, O ι a2, O ι a3, O ι s0, O ι s1, O ι s2, O ι s3, O ι off], .func (.func 65) #[] #[π (some ⟨w.heap.size + 1 + 1 + 1 + 1, 0, none⟩)], O ι x.1, undef, undef, undef, undef, undef, undef, undef, undef, undef], defers := [] }) ?assign ?body ?done ?stop
 case assign =>
  intro l x W K hK
  gi_wp2
  exact hK
 case body =>
  rintro l pre ⟨x, hx⟩ W ⟨⟨v, hbox, hrow, rfl⟩, hB⟩ hlen
  obtain ⟨k, rfl⟩ : ∃ k : Nat, x = k := ⟨x.toNat, by omega⟩
  have hc0 := hbox.cell
  have hf0 := hbox.frozen
  have hWs := hbox.lt
  have ha := Bel.box hB HC12.out
  have hkl : k < cs.length := by omega
  rcases HCV.out with ⟨su2, cu2, e2, h0 | ⟨bc, oc, e3, hrowC⟩⟩
  ·rw [h0] at hkl; simp at hkl
  injection e2 with e4 _ _
  subst e4
  subst e3
  have hk0 : (0 : Int) ≤ (k : Int) := Int.natCast_nonneg _
  have hk1 : (k : Int) < (cs.length : Int) := by omega
  obtain ⟨t0, t1, t2⟩ := hrowC k hkl
  have hgd : Hid ((fun p : Int => cs.getD p.toNat k0) (k : Int) = cs.getD k k0) := by show cs.getD (k : Int).toNat k0 = _; rw [Int.toNat_natCast]
  generalize cs.getD k k0 = cx at t0 t1 t2 hgd
  obtain ⟨A, B, C⟩ := cx
  have hSB : Hid (∀ W' : World, Below W2.heap.size W2 W' → (fun w' : World => w'.cell? ⟨w.heap.size, 12, none⟩ = some (σ (some ⟨bc, oc, none⟩) cs.length cu) ∧ w'.cell? ⟨bc, oc + k * 3, none⟩ = some (O ι A) ∧ w'.cell? ⟨bc, oc + k * 3 + 1, none⟩ = some (.float .f64 B) ∧ w'.cell? ⟨bc, oc + k * 3 + 2, none⟩ = some (.float .f64 C)) W') := fun W' h' => ⟨Bel.box h' HC12.out, Bel.box h' (Bel.box X2.out t0), Bel.box h' (Bel.box X2.out t1), Bel.box h' (Bel.box X2.out t2)⟩
  have HS0 : Hid ((fun w' : World => w'.cell? ⟨w.heap.size, 12, none⟩ = some (σ (some ⟨bc, oc, none⟩) cs.length cu) ∧ w'.cell? ⟨bc, oc + k * 3, none⟩ = some (O ι A) ∧ w'.cell? ⟨bc, oc + k * 3 + 1, none⟩ = some (.float .f64 B) ∧ w'.cell? ⟨bc, oc + k * 3 + 2, none⟩ = some (.float .f64 C)) W.drew) := hSB.out W hB
  clear hrowC t0 t1 t2 ha
  gi_wp2
  refine zh10 (S := (fun w' : World => w'.cell? ⟨w.heap.size, 12, none⟩ = some (σ (some ⟨bc, oc, none⟩) cs.length cu) ∧ w'.cell? ⟨bc, oc + k * 3, none⟩ = some (O ι A) ∧ w'.cell? ⟨bc, oc + k * 3 + 1, none⟩ = some (.float .f64 B) ∧ w'.cell? ⟨bc, oc + k * 3 + 2, none⟩ = some (.float .f64 C))) (by kernel_rfl) (by rfl) ?_
  refine wpAnyH_take (i := 1) (oi := { dst := some 15, op := Op.fieldAddr 67 (Operand.tmp 1) 3, type := 0, pos := _, after := #[], guard := none }) (v := (π (some ⟨w.heap.size, 12, none⟩))) rfl (by kernel_rfl) (by kernel_rfl) (by kernel_rfl) (fun _ _ _ h => by cases h.1) (Or.inl ⟨by rfl, ?_⟩) HS0.out ?_
  ·rintro w' ⟨z0, z1, z2, z3⟩
   go_simp
  simp only [aP, sT, sZ, sS]
  refine wpAnyH_take (i := 2) (oi := { dst := some 16, op := Op.load 39 (Operand.tmp 15), type := 39, pos := _, after := #[{ on := 1, ground := Ground.data }], guard := none }) (v := (σ (some ⟨bc, oc, none⟩) cs.length cu)) rfl (by kernel_rfl) (by kernel_rfl) (by kernel_rfl) (fun _ _ _ h => by cases h.1) (Or.inl ⟨by rfl, ?_⟩) HS0.out ?_
  ·rintro w' ⟨z0, z1, z2, z3⟩
   go_simp
  simp only [aP, sT, sZ, sS]
  refine wpAnyH_take (i := 3) (oi := { dst := some 17, op := Op.move (Operand.tmp 4), type := 2, pos := _, after := #[], guard := none }) (v := (O ι (k : Int))) rfl (by kernel_rfl) (by kernel_rfl) (by kernel_rfl) (fun _ _ _ h => by cases h.1) (Or.inl ⟨by rfl, ?_⟩) HS0.out ?_
  ·rintro w' ⟨z0, z1, z2, z3⟩
   go_simp
  simp only [aP, sT, sZ, sS]
  refine wpAnyH_take (i := 4) (oi := { dst := some 18, op := Op.indexAddr 39 (Operand.tmp 16) (Operand.tmp 17), type := 0, pos := _, after := #[{ on := 2, ground := Ground.data }, { on := 3, ground := Ground.data }], guard := none }) (v := (π (some ⟨bc, oc + k * 3, none⟩))) rfl (by kernel_rfl) (by kernel_rfl) (by kernel_rfl) (fun _ _ _ h => by cases h.1) (Or.inl ⟨by rfl, ?_⟩) HS0.out ?_
  ·rintro w' ⟨z0, z1, z2, z3⟩
   go_simp
  simp only [aP, sT, sZ, sS]
  refine wpAnyH_take (i := 5) (oi := { dst := some 19, op := Op.load 47 (Operand.tmp 18), type := 47, pos := _, after := #[{ on := 4, ground := Ground.data }], guard := none }) (v := (γ #[O ι A, .float .f64 B, .float .f64 C])) rfl (by kernel_rfl) (by kernel_rfl) (by kernel_rfl) (fun _ _ _ h => by cases h.1) (Or.inl ⟨by rfl, ?_⟩) HS0.out ?_
  ·rintro w' ⟨z0, z1, z2, z3⟩
   go_simp
  simp only [aP, sT, sZ, sS]
  have HN := hide (World.news_of_block (w := (W.alloc (χ #[O ι A, .float .f64 B, .float .f64 C] 47)).drew) (cs := #[O ι A, .float .f64 B, .float .f64 C]) (t := 47) (fr := (0, 0)) (heap_alloc_new W _))
  have HS1 : Hid ((fun w' : World => w'.cell? ⟨w.heap.size, 12, none⟩ = some (σ (some ⟨bc, oc, none⟩) cs.length cu) ∧ w'.cell? ⟨bc, oc + k * 3, none⟩ = some (O ι A) ∧ w'.cell? ⟨bc, oc + k * 3 + 1, none⟩ = some (.float .f64 B) ∧ w'.cell? ⟨bc, oc + k * 3 + 2, none⟩ = some (.float .f64 C)) (W.alloc (χ #[O ι A, .float .f64 B, .float .f64 C] 47)).drew) := hSB.out (W.alloc (χ #[O ι A, .float .f64 B, .float .f64 C] 47)) (hB.alloc hB.size _)
  have hb1 : pre.length + 1 ≤ P.toNat := by omega
  have hWs2 := hB.size
  refine wpAnyH_ready (rs := [0, 6]) (by kernel_rfl) (by simp) ?_
  refine AllReadyH.cons (o := { dst := some 14, op := Op.load 39 (Operand.tmp 3), type := 39, pos := _, after := #[], guard := none }) rfl (fun K hK => ?_) (AllReadyH.cons (o := { dst := some 20, op := Op.buildSlice 39 1 #[(0, Operand.tmp 19)], type := 39, pos := _, after := #[{ on := 5, ground := Ground.data }], guard := none }) rfl (fun K hK => ?_) AllReadyH.nil)
  ·go_simp
   refine hK.out _ _ HS0.out (fun _ => ?_)
   clear hK K
   try simp only [aP, sT, sZ, sS]
   refine wpAnyH_ready (rs := [6]) (by kernel_rfl) (by simp) ?_
   refine AllReadyH.cons (o := { dst := some 20, op := Op.buildSlice 39 1 #[(0, Operand.tmp 19)], type := 39, pos := _, after := #[{ on := 5, ground := Ground.data }], guard := none }) rfl (fun K hK => ?_) AllReadyH.nil
   go_simp
   refine hK.out _ _ HS1.out (fun _ => ?_)
   clear hK K
   try simp only [aP, sT, sZ, sS]
   refine wpAnyH_ready (rs := [7]) (by kernel_rfl) (by simp) ?_
   refine AllReadyH.cons (o := { dst := some 21, op := Op.call { callee := Callee.builtin Builtin.append, args := #[Operand.tmp 14, Operand.tmp 20], argTypes := #[39, 39] }, type := 39, pos := _, after := #[{ on := 0, ground := Ground.data }, { on := 6, ground := Ground.data }], guard := none }) rfl (fun K hK => ?_) AllReadyH.nil
   refine zq1 (by rfl) (.tmp 14) (.tmp 20) 39 (by rfl) (w.heap.size + 1 + 1) 47 i0 3 Tryz.underlying39 hi0 hz1 (w.heap.size + 1 + 1) pre.length P.toNat _ (by rfl) ((hrow.alloc _).drew) ⟨W.heap.size, 0, none⟩ 1 1 (c3v (A, B, C)) (by rfl) (by rfl) HN.out (zp3 _) hb1 ?_
   intro w3 hown3 hgrow3
   have hgrow4 : (W.alloc (χ #[O ι A, .float .f64 B, .float .f64 C] 47)).grownBy w3 (some (w.heap.size + 1 + 1)) := ⟨hgrow3.os, hgrow3.tape, hgrow3.output, hgrow3.size, hgrow3.block⟩
   obtain ⟨hv1, hv2, hr2, hk2, hb2⟩ := hbox.appended (by decide) hrow (by omega) (by omega) hown3 hgrow4
   have hb3 : Below W2.heap.size W (w3.setCell ⟨w.heap.size + 1 + 1 + 1, 0, none⟩ (σ (some ⟨w.heap.size + 1 + 1, 0, none⟩) (pre.length + 1) P.toNat)) := by rw [hs2]; exact hb2
   have HB4 := hide (hB.trans hb3)
   have HB3 := hide (Below.grown (hB.alloc hB.size (χ #[O ι A, .float .f64 B, .float .f64 C] 47)) hgrow4 (by simp; omega) (fun j hj => by cases hj; omega))
   have hc1 := hv1.cell
   have hf1 := hv1.frozen
   refine hK.out _ _ (hSB.out _ HB3.out) (fun _ => ?_)
   clear hK K
   try simp only [aP, sT, sZ, sS]
   refine wpAnyH_ready (rs := [8]) (by kernel_rfl) (by simp) ?_
   refine AllReadyH.cons (o := { dst := none, op := Op.store 39 (Operand.tmp 3) (Operand.tmp 21), type := 0, pos := _, after := #[{ on := 7, ground := Ground.data }, { on := 7, ground := Ground.chain }, { on := 0, ground := Ground.phase }, { on := 1, ground := Ground.phase }, { on := 2, ground := Ground.phase }, { on := 3, ground := Ground.phase }, { on := 4, ground := Ground.phase }, { on := 5, ground := Ground.phase }, { on := 6, ground := Ground.phase }, { on := 7, ground := Ground.phase }], guard := none }) rfl (fun K hK => ?_) AllReadyH.nil
   go_simp
   refine hK.out _ _ (hSB.out _ HB4.out) (fun _ => ?_)
   refine wpAnyH_done (by kernel_rfl) ?_ _
   refine ⟨rfl, ?_⟩
   refine ⟨hk2, ((KC.alloc _ W _).trans (KC.grown hgrow4 (by omega))).trans (KC.setCell w3 (p := ⟨w.heap.size + 1 + 1 + 1, 0, none⟩) (by show w.heap.size + 1 + 1 + 1 < _; omega) _), ⟨_, hv2, ?_, ?_⟩, HB4.out⟩
   ·rw [zw1, List.map_append]
    show World.ownsRow _ _ _ _ _ _ (flat (_ ++ [cs.getD (k : Int).toNat k0]))
    rw [show cs.getD (k : Int).toNat k0 = (A, B, C) from hgd.out, zw2, List.length_append]
    exact hr2
   ·simp
  ·go_simp
   refine hK.out _ _ HS1.out (fun _ => ?_)
   clear hK K
   try simp only [aP, sT, sZ, sS]
   refine wpAnyH_ready (rs := [0]) (by kernel_rfl) (by simp) ?_
   refine AllReadyH.cons (o := { dst := some 14, op := Op.load 39 (Operand.tmp 3), type := 39, pos := _, after := #[], guard := none }) rfl (fun K hK => ?_) AllReadyH.nil
   have hc0a : (W.alloc (χ #[O ι A, .float .f64 B, .float .f64 C] 47)).cell? ⟨w.heap.size + 1 + 1 + 1, 0, none⟩ = some (σ (some ⟨w.heap.size + 1 + 1, 0, none⟩) pre.length P.toNat) := zu7 _ hc0
   go_simp
   refine hK.out _ _ HS1.out (fun _ => ?_)
   clear hK K
   try simp only [aP, sT, sZ, sS]
   refine wpAnyH_ready (rs := [7]) (by kernel_rfl) (by simp) ?_
   refine AllReadyH.cons (o := { dst := some 21, op := Op.call { callee := Callee.builtin Builtin.append, args := #[Operand.tmp 14, Operand.tmp 20], argTypes := #[39, 39] }, type := 39, pos := _, after := #[{ on := 0, ground := Ground.data }, { on := 6, ground := Ground.data }], guard := none }) rfl (fun K hK => ?_) AllReadyH.nil
   refine zq1 (by rfl) (.tmp 14) (.tmp 20) 39 (by rfl) (w.heap.size + 1 + 1) 47 i0 3 Tryz.underlying39 hi0 hz1 (w.heap.size + 1 + 1) pre.length P.toNat _ (by rfl) ((hrow.alloc _).drew) ⟨W.heap.size, 0, none⟩ 1 1 (c3v (A, B, C)) (by rfl) (by rfl) HN.out (zp3 _) hb1 ?_
   intro w3 hown3 hgrow3
   have hgrow4 : (W.alloc (χ #[O ι A, .float .f64 B, .float .f64 C] 47)).grownBy w3 (some (w.heap.size + 1 + 1)) := ⟨hgrow3.os, hgrow3.tape, hgrow3.output, hgrow3.size, hgrow3.block⟩
   obtain ⟨hv1, hv2, hr2, hk2, hb2⟩ := hbox.appended (by decide) hrow (by omega) (by omega) hown3 hgrow4
   have hb3 : Below W2.heap.size W (w3.setCell ⟨w.heap.size + 1 + 1 + 1, 0, none⟩ (σ (some ⟨w.heap.size + 1 + 1, 0, none⟩) (pre.length + 1) P.toNat)) := by rw [hs2]; exact hb2
   have HB4 := hide (hB.trans hb3)
   have HB3 := hide (Below.grown (hB.alloc hB.size (χ #[O ι A, .float .f64 B, .float .f64 C] 47)) hgrow4 (by simp; omega) (fun j hj => by cases hj; omega))
   have hc1 := hv1.cell
   have hf1 := hv1.frozen
   refine hK.out _ _ (hSB.out _ HB3.out) (fun _ => ?_)
   clear hK K
   try simp only [aP, sT, sZ, sS]
   refine wpAnyH_ready (rs := [8]) (by kernel_rfl) (by simp) ?_
   refine AllReadyH.cons (o := { dst := none, op := Op.store 39 (Operand.tmp 3) (Operand.tmp 21), type := 0, pos := _, after := #[{ on := 7, ground := Ground.data }, { on := 7, ground := Ground.chain }, { on := 0, ground := Ground.phase }, { on := 1, ground := Ground.phase }, { on := 2, ground := Ground.phase }, { on := 3, ground := Ground.phase }, { on := 4, ground := Ground.phase }, { on := 5, ground := Ground.phase }, { on := 6, ground := Ground.phase }, { on := 7, ground := Ground.phase }], guard := none }) rfl (fun K hK => ?_) AllReadyH.nil
   go_simp
   refine hK.out _ _ (hSB.out _ HB4.out) (fun _ => ?_)
   refine wpAnyH_done (by kernel_rfl) ?_ _
   refine ⟨rfl, ?_⟩
   refine ⟨hk2, ((KC.alloc _ W _).trans (KC.grown hgrow4 (by omega))).trans (KC.setCell w3 (p := ⟨w.heap.size + 1 + 1 + 1, 0, none⟩) (by show w.heap.size + 1 + 1 + 1 < _; omega) _), ⟨_, hv2, ?_, ?_⟩, HB4.out⟩
   ·rw [zw1, List.map_append]
    show World.ownsRow _ _ _ _ _ _ (flat (_ ++ [cs.getD (k : Int).toNat k0]))
    rw [show cs.getD (k : Int).toNat k0 = (A, B, C) from hgd.out, zw2, List.length_append]
    exact hr2
   ·simp
 case done =>
  rintro D ys W hD hS ⟨⟨v, hbox, hrow, rfl⟩, hB⟩ hK
  have hc0 := hbox.cell
  gi_wp2
  refine ⟨by simp, .inl ⟨_, _, rfl, run_takeDeferred hK, ?_⟩⟩
  refine ⟨_, results_tmp rfl _ _ _, ?_⟩
  have hrow2 := hrow.kept (grownBy_putObj' W D (.deferred none)) (.inr (fun e => by
   have : w.heap.size + 1 + 1 = D := by simpa [Value.ownBlock] using e
   omega))
  obtain ⟨sa3, cap3, e3, o3⟩ := zx4 (lo := w.heap.size) (by omega) hrow2
  have hcap : ((pnv ys).map fun p => cs.getD p.toNat k0).length ≤ cap3 := by
   injection e3 with _ _ e9
   rw [List.length_map, hS, ← e9]
   exact hOP
  rw [← hS]
  refine ⟨sa3, cap3, ?_, o3, Bel.tr X2.out (hB.trans (belowK_b (w := W2) (Nat.le_refl _) W D _ _ (by omega) hK rfl rfl)), hcap⟩
  rw [← e3]
  rfl
 case stop =>
  rintro D c pre W _ _ h _
  exact h.elim
theorem zb20 (n : Nat) (hn : 3 ≤ n) (xs ss : List Int) (off st dt : Int) {w : World} {su : Option Addr} {cu : Nat} {cs : List C3} (hcv : CV w (σ su cs.length cu) cs) (hlc : cs.length ≤ 1048576) (hv : ValidV xs ss off) (hin : ∀ p ∈ offsL xs ss off, p < (cs.length : Int)) :
  CallsIn Fence.wide n Tryz.prog 28 #[γ #[O ι xs.length, O ι (xs.getD 0 0), O ι (xs.getD 1 0), O ι (xs.getD 2 0), O ι (xs.getD 3 0), O ι (ss.getD 0 0), O ι (ss.getD 1 0), O ι (ss.getD 2 0), O ι (ss.getD 3 0), O ι off, O ι st, O ι dt, σ su cs.length cu]] w fun e w' => CellsOk w ((offsL xs ss off).map fun p => cs.getD p.toNat k0) e w' :=
 (zk9 n hn xs ss off st dt hcv hlc hv hin).mono (fun e w' h => by
  obtain ⟨sa, cap, h1, h2, h3, _⟩ := h
  exact ⟨sa, cap, h1, h2, h3⟩)
end
section
open Go.RowKit
section
variable {P : Program} {ops : Array Oper} {Q : Exit → Act → World → Prop} {md : Region.Mode} {S : World → Prop} {late : List Nat}
def waitsFor (md : Region.Mode) (ops : Array Oper) (i k : Nat) : Bool := match ops[k]? with
 | none => true
 | some o => o.after.any fun e => Region.binds md e && e.on == i
def wpAnyU (P : Program) (md : Region.Mode) (ops : Array Oper) (Q : Exit → Act → World → Prop) (S : World → Prop) (late : List Nat) : Nat → Array Bool → Act → World → Prop
 | 0, l, a, w => Region.ready md ops l = [] ∧ Q .normal a w
 | f + 1, l, a, w => (Region.ready md ops l = [] → Q .normal a w) ∧
  ∀ i ∈ Region.ready md ops l, wpOp P ops Q i (fun a' w' => (late.contains i = false → S w') ∧ wpAnyU P md ops Q S late f (l.setIfInBounds i true) a' w') a w
theorem zn5 : ∀ (f : Nat) (l : Array Bool) (a : Act) (w : World), wpAnyU P md ops Q S late f l a w → wpAny P md ops Q f l a w
 | 0, _, _, _, h => h
 | f + 1, _, _, _, h => ⟨h.1, fun i hi => wpOp_mono (fun a' w' h' => zn5 f _ a' w' h'.2) (h.2 i hi)⟩
theorem zd {i : Nat} {oi : Oper} {v : Value} (hi : ops[i]? = some oi) (hs : Region.noSelect ops = true) (hl : (late.all (waitsFor md ops i)) = true)
  (hQ : ∀ c a w, Q (.panic c) (a.put oi.dst v) w → Q (.panic c) a w) (f : Nat) : ∀ {l : Array Bool} {a : Act} {w : World},
  Region.free md ops l i = true → (Region.ready md ops l).contains i = true → YieldsIf P ops S oi v a → S w →
  wpAnyU P md ops Q S late f (l.setIfInBounds i true) (a.put oi.dst v) w → wpAnyU P md ops Q S late (f + 1) l a w := by
 have key : ∀ (f : Nat) (l : Array Bool) (a : Act) (w : World),
   (∀ j oj, ops[j]? = some oj → j ≠ i → l.getD j true = false → (∀ e ∈ oj.after, Region.binds md e = true → e.on ≠ i) → oi.apart ops oj = true) →
   i ∈ Region.ready md ops l → YieldsIf P ops S oi v a → S w →
   wpAnyU P md ops Q S late f (l.setIfInBounds i true) (a.put oi.dst v) w → wpAnyU P md ops Q S late (f + 1) l a w := by
  intro f
  induction f with
  | zero =>
   intro l a w _ hr hy hS H
   refine ⟨fun h => (by rw [h] at hr; cases hr), fun j hj => ?_⟩
   by_cases e : j = i
   ·subst e
    exact hy.wpOp hi hS ⟨fun _ => hS, H⟩
   ·have h0 := ready_mono hj e
    rw [H.1] at h0
    cases h0
  | succ f ih =>
   intro l a w hfr hr hy hS H
   refine ⟨fun h => (by rw [h] at hr; cases hr), fun j hj => ?_⟩
   by_cases e : j = i
   ·subst e
    exact hy.wpOp hi hS ⟨fun _ => hS, H⟩
   obtain ⟨hju, oj, hoj, hal⟩ := mem_ready.1 hj
   have hiu := (mem_ready.1 hr).1
   have hno : ∀ x ∈ oj.after, Region.binds md x = true → x.on ≠ i := fun x hx hb q => by
    have h1 := hal x hx hb
    rw [q] at h1
    rcases Nat.lt_or_ge i l.size with h' | h'
    ·simp [h'] at hiu h1
     rw [hiu] at h1; cases h1
    ·simp [Array.getElem?_eq_none h'] at h1
   have hnl : late.contains j = false := by
    cases hc : late.contains j with
    | false => rfl
    | true =>
     have h2 := List.all_eq_true.1 hl j (by simpa using hc)
     unfold waitsFor at h2
     rw [hoj] at h2
     simp only [Array.any_eq_true', Bool.and_eq_true, beq_iff_eq] at h2
     obtain ⟨x, hx, hb, ho⟩ := h2
     exact absurd ho (hno x hx hb)
   have step := wpOp_putIf hoj (hfr j oj hoj e hju hno) (fun cs b => Region.noSelect_spec hs i oi cs b hi) (fun cs b => Region.noSelect_spec hs j oj cs b hoj) hQ hy (H.2 j (ready_mono hj e))
   refine wpOp_mono (fun a' w' h3 => ⟨h3.2.1, ih (l.setIfInBounds j true) a' w' (fun k ok hk hki hun hn => hfr k ok hk hki ?_ hn) (ready_mono hr (Ne.symm e)) h3.1 (h3.2.1 hnl) ?_⟩) step
   ·by_cases q : j = k
    ·subst q; exact hju
    ·rw [getD_set_ne true q] at hun; exact hun
   ·rw [Array.setIfInBounds_comm _ _ e]
    exact h3.2.2
 intro l a w hf hr hy hS h
 exact key f l a w (Region.free_spec hi hf) (by simpa using hr) hy hS h
theorem ze {i : Nat} {o : Oper} {f : Nat} {l : Array Bool} {a : Act} {w : World} (hr : Region.ready md ops l = [i]) (ho : ops[i]? = some o)
  (h : ∀ K' : Act → World → Prop, Shut (∀ a w, (late.contains i = false → S w) → wpAnyU P md ops Q S late f (l.setIfInBounds i true) a w → K' a w) → if Region.wanted o (yielded ops a.tmps) = true then Oper.wp P o a w K' Q else K' (a.put o.dst undef) w) :
  wpAnyU P md ops Q S late (f + 1) l a w := by
 refine ⟨fun h0 => (by rw [hr] at h0; cases h0), fun j hj => ?_⟩
 rw [hr] at hj
 obtain rfl : j = i := by simpa using hj
 exact wpOp_step ho (fun K' hK => h K' (fun a w h1 h2 => hK a w ⟨h1, h2⟩))
theorem zm {l : Array Bool} {a : Act} {w : World} (hr : Region.ready md ops l = []) (h : Q .normal a w) : ∀ f, wpAnyU P md ops Q S late f l a w
 | 0 => ⟨hr, h⟩
 | _ + 1 => ⟨fun _ => h, by rw [hr]; simp⟩
theorem zv {id : Nat} {a : Act} {w : World} (hm : P.follows .mixedOrders = true)
  (h : wpAnyU P .any ops (NQ Q) S late ops.size (Array.replicate ops.size false) a w.drew) : (Code.region id ops true).wp P Q a w :=
 Code.wp_mono (fun e a w h => by obtain ⟨rfl, h⟩ := h; exact h) (wp_region_any hm (zn5 _ _ _ _ h))
end
end
section
open Go.ChangeShapes Go.RowKit FL
structure HOwn (w : World) (lo g : Nat) (cb : Nat → Nat) (ss : List St) : Prop where
 dt : ∀ j, j < ss.length → w.cell? ⟨g, j * 2, none⟩ = some (O ι (ss.getD j s0).1)
 sl : ∀ j, j < ss.length → ∃ sa cap, w.cell? ⟨g, j * 2 + 1, none⟩ = some (σ sa (ss.getD j s0).2.length cap) ∧ ((ss.getD j s0).2 = [] ∨ sa = some ⟨cb j, 0, none⟩)
 row : ∀ j, j < ss.length → (ss.getD j s0).2 ≠ [] → CRow w (cb j) 0 (ss.getD j s0).2
 fz : ∀ o, w.frozen? ⟨g, o, none⟩ = false
 fzr : ∀ j, j < ss.length → (ss.getD j s0).2 ≠ [] → ∀ o, w.frozen? ⟨cb j, o, none⟩ = false
 lo_g : lo ≤ g
 g_lt : g < w.heap.size
 g_cb : ∀ j, j < ss.length → (ss.getD j s0).2 ≠ [] → g < cb j
 inc : ∀ i j, i < j → j < ss.length → (ss.getD i s0).2 ≠ [] → (ss.getD j s0).2 ≠ [] → cb i < cb j
theorem HOwn.sv {w : World} {lo g cap : Nat} {cb : Nat → Nat} {ss : List St} (h : HOwn w lo g cb ss) : SV w (σ (some ⟨g, 0, none⟩) ss.length cap) ss := by
 refine ⟨_, cap, rfl, Or.inr ⟨g, 0, rfl, fun j hj => ?_⟩⟩
 rw [Nat.zero_add]
 obtain ⟨sa, cp, h1, h2⟩ := h.sl j hj
 refine ⟨h.dt j hj, _, h1, sa, cp, rfl, ?_⟩
 by_cases e : (ss.getD j s0).2 = []
 ·exact Or.inl e
 ·exact Or.inr ⟨cb j, 0, h2.resolve_left e, h.row j hj e⟩
def flatS (U : Nat → Value) (ss : List St) : Nat → List Value
 | 0 => []
 | k + 1 => flatS U ss k ++ [O ι (ss.getD k s0).1, U k]
theorem ze11 (U : Nat → Value) (ss : List St) (k : Nat) : (flatS U ss k).length = k * 2 := by
 induction k with
 | zero => rfl
 | succ k ih => rw [flatS, List.length_append, ih]; simp; omega
theorem zr7 {U V : Nat → Value} {ss : List St} {k : Nat} (h : ∀ j, j < k → U j = V j) : flatS U ss k = flatS V ss k := by
 induction k with
 | zero => rfl
 | succ k ih => rw [flatS, flatS, ih (fun j hj => h j (by omega)), h k (by omega)]
theorem zk5 (U : Nat → Value) (ss : List St) (k j : Nat) (h : j < k) : (flatS U ss k)[j * 2]? = some (O ι (ss.getD j s0).1) ∧ (flatS U ss k)[j * 2 + 1]? = some (U j) := by
 induction k with
 | zero => omega
 | succ k ih =>
  rw [flatS]
  by_cases e : j = k
  ·subst e
   have hl := ze11 U ss j
   rw [List.getElem?_append_right (by omega), List.getElem?_append_right (by omega), hl]
   exact ⟨by simp, by simp⟩
  ·have hl := ze11 U ss k
   rw [List.getElem?_append_left (by omega), List.getElem?_append_left (by omega)]
   exact ih (by omega)
theorem zi12 {w w' : World} {base e size n : Nat} {v : Value} {xs : List Value} (h : w.ownsRow base e size v n xs) (x : Bel w w') : w'.ownsRow base e size v n xs := by
 refine ⟨h.1, ?_⟩
 rcases h.2 with h | ⟨g, cap, cur, rfl, h1, h2, h3⟩
 ·exact Or.inl h
 ·exact Or.inr ⟨g, cap, cur, rfl, h1, by rw [Below.block x g (Array.getElem?_eq_some_iff.1 h2).1]; exact h2, h3⟩
theorem zk6 {P : Program} {w : World} {ops : Array Oper} {o : Oper} {a : Act} {K : Act → World → Prop} {Q : Exit → Act → World → Prop} {E : Prop}
  (hg : o.guard = none) (s x : Operand) (t : TypeId) (hop : o.op = Op.call { callee := Callee.builtin Builtin.append, args := #[s, x], argTypes := #[t, t] })
  (e : TypeId) (i : TypeInfo) (h1 : P.underlying t = some (.slice e)) (h2 : P.info? e = some i)
  (p : Addr) (k cap : Nat) (hk : k ≤ cap) (hs : a.eval s = σ (some p) k cap) (sa : Option Addr) (c : Nat) (hx : a.eval x = σ sa 0 c)
  (hK : K (a.put o.dst (σ (some p) k cap)) w) :
  if Region.wanted o (yielded ops a.tmps) = true then Oper.wp P o a w K Q else E := by
 have hw : Region.wanted o (yielded ops a.tmps) = true := by simp [Region.wanted, hg]
 rw [if_pos hw]
 have hl : ∀ (x : Addr), (loadCells x 0).run P w = .ok #[] w := fun x => by simpa using run_loadCells_list (P := P) w x [] (by simp)
 have hr : (Builtin.append_ #[t, t] o.type #[σ (some p) k cap, σ sa 0 c]).run P w = .ok (σ (some p) k cap) w := by
  cases sa <;> simp [Builtin.append_, run_underlying h1, sizeOf, typeInfo, h2, Builtin.lenOf, Builtin.firstCells, hk, storeCells, hl]
 unfold Oper.wp execOp
 simp only [hop, resolve, invoke, builtin, Sem.run_bind, Sem.run_pure, Result.andThen_ok, List.map_toArray, List.map_cons, List.map_nil, hs, hx, hr]
 exact hK
theorem zk17 {w : World} {b off : Nat} {cs : List C3} (h : CRow w b off cs) (j : Nat) (u : Value) (hj : (flat cs)[j]? = some u) : w.cell? ⟨b, off + j, none⟩ = some u := by
 have hl : j < cs.length * 3 := by rw [← za4]; exact (List.getElem?_eq_some_iff.1 hj).1
 obtain ⟨a, b', c⟩ := h (j / 3) (by omega)
 obtain ⟨p, q, r⟩ := zh4 cs (j / 3) (by omega)
 have hm : j % 3 = 0 ∨ j % 3 = 1 ∨ j % 3 = 2 := by omega
 rcases hm with e | e | e
 ·rw [show j = j / 3 * 3 by omega] at hj ⊢
  rw [p] at hj
  rw [← hj]
  exact a
 ·rw [show j = j / 3 * 3 + 1 by omega] at hj ⊢
  rw [q] at hj
  rw [← hj, ← Nat.add_assoc]
  exact b'
 ·rw [show j = j / 3 * 3 + 2 by omega] at hj ⊢
  rw [r] at hj
  rw [← hj, ← Nat.add_assoc]
  exact c
theorem flat_one' (cs : List C3) : ∀ u ∈ flat cs, u.oneCell' = true := by
 induction cs with
 | nil => intro u hu; cases hu
 | cons c cs ih =>
  intro u hu
  rw [flat, List.mem_append] at hu
  rcases hu with hu | hu
  ·exact zp3 c u hu
  ·exact ih u hu
theorem zv13 {w : World} {base e size n g cap : Nat} {xs : List Value} (h : w.ownsRow base e size (σ (some ⟨g, 0, none⟩) n cap) n xs) (hn : 0 < n) : base ≤ g := by
 obtain ⟨g', cap', e', hb⟩ := zz17 h hn
 injection e' with e1 _ _
 injection e1 with e1
 injection e1 with e1
 omega
structure CpSt (w : World) (n : Nat) (ss : List St) (k : Nat) (U : Nat → Value) (cb : Nat → Nat) (wr : World) : Prop where
 bl : Bel w wr
 b0 : wr.cell? ⟨w.heap.size + 3, 0, none⟩ = some (σ (some ⟨w.heap.size + 2, 0, none⟩) k n)
 own : wr.ownsRow (w.heap.size + 2) 41 2 (σ (some ⟨w.heap.size + 2, 0, none⟩) k n) k (flatS U ss k)
 rs0 : wr.cell? ⟨w.heap.size + 1, 0, none⟩ = some (σ none 0 0)
 f1 : wr.frozen? ⟨w.heap.size + 1, 0, none⟩ = false
 f3 : wr.frozen? ⟨w.heap.size + 3, 0, none⟩ = false
 fzr : ∀ j, j < k → (ss.getD j s0).2 ≠ [] → ∀ o, wr.frozen? ⟨cb j, o, none⟩ = false
 us : ∀ j, j < k → ∃ sa cap, U j = σ sa (ss.getD j s0).2.length cap ∧ ((ss.getD j s0).2 = [] ∨ sa = some ⟨cb j, 0, none⟩)
 row : ∀ j, j < k → (ss.getD j s0).2 ≠ [] → CRow wr (cb j) 0 (ss.getD j s0).2
 lt : ∀ j, j < k → (ss.getD j s0).2 ≠ [] → w.heap.size + 3 < cb j ∧ cb j < wr.heap.size
 inc : ∀ i j, i < j → j < k → (ss.getD i s0).2 ≠ [] → (ss.getD j s0).2 ≠ [] → cb i < cb j
theorem CpSt.step {w : World} {n : Nat} {ss : List St} {k : Nat} {U : Nat → Value} {cb : Nat → Nat} {wr : World} (h : CpSt w n ss k U cb wr) {W5 w7 : World} (b5 : Bel wr W5) {tmp : Obj} (V : Value) (c : Nat)
  (hV : ∃ sa cap, V = σ sa (ss.getD k s0).2.length cap ∧ ((ss.getD k s0).2 = [] ∨ sa = some ⟨c, 0, none⟩))
  (hr : (ss.getD k s0).2 ≠ [] → CRow W5 c 0 (ss.getD k s0).2 ∧ wr.heap.size ≤ c ∧ ∀ o, W5.frozen? ⟨c, o, none⟩ = false)
  (hown : w7.ownsRow (w.heap.size + 2) 41 2 (σ (some ⟨w.heap.size + 2, 0, none⟩) (k + 1) n) (k + 1) (flatS U ss k ++ [O ι (ss.getD k s0).1, V])) (hgrow : (W5.alloc tmp).grownBy w7 (some (w.heap.size + 2))) :
  CpSt w n ss (k + 1) (fun j => if j = k then V else U j) (fun j => if j = k then c else cb j) (w7.setCell ⟨w.heap.size + 3, 0, none⟩ (σ (some ⟨w.heap.size + 2, 0, none⟩) (k + 1) n)) := by
 have hs3 := zl h.b0
 have hs5 := Below.size b5
 have hs7 := hgrow.size
 rw [World.size_alloc] at hs7
 have hb7 : ∀ b, b < W5.heap.size → b ≠ w.heap.size + 2 → w7.heap[b]? = W5.heap[b]? := fun b hb hn => by
  rw [hgrow.block b (by rw [World.size_alloc]; omega) (fun e => by cases e; exact hn rfl)]
  exact ((Below.refl W5.heap.size W5).alloc (Nat.le_refl _) tmp).block b hb
 have hb8 : ∀ b, b < W5.heap.size → b ≠ w.heap.size + 2 → b ≠ w.heap.size + 3 → (w7.setCell ⟨w.heap.size + 3, 0, none⟩ (σ (some ⟨w.heap.size + 2, 0, none⟩) (k + 1) n)).heap[b]? = W5.heap[b]? := fun b hb hn hn2 => (Below.heap_setCell _ _ _ _ hn2).trans (hb7 b hb hn)
 have hb9 : ∀ b, b < wr.heap.size → b ≠ w.heap.size + 2 → b ≠ w.heap.size + 3 → (w7.setCell ⟨w.heap.size + 3, 0, none⟩ (σ (some ⟨w.heap.size + 2, 0, none⟩) (k + 1) n)).heap[b]? = wr.heap[b]? := fun b hb hn hn2 => (hb8 b (by omega) hn hn2).trans (Below.block b5 b hb)
 have hc3 : w7.cell? ⟨w.heap.size + 3, 0, none⟩ = some (σ (some ⟨w.heap.size + 2, 0, none⟩) k n) := (World.cell?_of_block (w := wr) (a := ⟨w.heap.size + 3, 0, none⟩) ((hb7 (w.heap.size + 3) (by omega) (by omega)).trans (Below.block b5 (w.heap.size + 3) (by omega)))).trans h.b0
 have hcell : ∀ {b o v}, w.heap.size + 3 < b → W5.cell? ⟨b, o, none⟩ = some v → (w7.setCell ⟨w.heap.size + 3, 0, none⟩ (σ (some ⟨w.heap.size + 2, 0, none⟩) (k + 1) n)).cell? ⟨b, o, none⟩ = some v := fun {b o v} hb hc => (World.cell?_of_block (w := W5) (a := ⟨b, o, none⟩) (hb8 b (zl hc) (by omega) (by omega))).trans hc
 refine ⟨⟨?_, ?_, ?_, ?_, fun b hb => ?_⟩, ?_, ?_, ?_, ?_, ?_, fun j hj hne o => ?_, fun j hj => ?_, fun j hj hne => ?_, fun j hj hne => ?_, fun i j hij hj hi hjn => ?_⟩
 ·exact hgrow.os.trans (b5.os.trans h.bl.os)
 ·exact hgrow.tape.trans (b5.tape.trans h.bl.tape)
 ·exact hgrow.output.trans (b5.output.trans h.bl.output)
 ·have := Below.size h.bl; simp [World.setCell]; omega
 ·exact (hb9 b (by have := Below.size h.bl; omega) (by omega) (by omega)).trans (Below.block h.bl b hb)
 ·exact World.cell?_setCell_same _ _ _ hc3
 ·rw [flatS, if_pos rfl, zr7 (V := U) (fun j hj => if_neg (by omega))]
  exact hown.kept (grownBy_setCell' w7 (w.heap.size + 3) _) (.inr (fun e => by simp [Value.ownBlock] at e))
 ·exact (World.cell?_of_block (w := wr) (a := ⟨w.heap.size + 1, 0, none⟩) (hb9 (w.heap.size + 1) (by omega) (by omega) (by omega))).trans h.rs0
 ·exact (World.frozen?_of_block (w := wr) (a := ⟨w.heap.size + 1, 0, none⟩) (hb9 (w.heap.size + 1) (by omega) (by omega) (by omega))).trans h.f1
 ·rw [World.frozen?_setCell]
  exact (World.frozen?_of_block (w := wr) (a := ⟨w.heap.size + 3, 0, none⟩) ((hb7 (w.heap.size + 3) (by omega) (by omega)).trans (Below.block b5 (w.heap.size + 3) (by omega)))).trans h.f3
 ·by_cases e : j = k
  ·subst e
   rw [if_pos rfl]
   obtain ⟨r1, r2, r3⟩ := hr hne
   have hlt := zl (r1 0 (List.length_pos_iff.2 hne)).1
   exact (World.frozen?_of_block (w := W5) (a := ⟨c, o, none⟩) (hb8 c hlt (by omega) (by omega))).trans (r3 o)
  ·rw [if_neg e]
   have hl := h.lt j (by omega) hne
   exact (World.frozen?_of_block (w := wr) (a := ⟨cb j, o, none⟩) (hb9 (cb j) hl.2 (by omega) (by omega))).trans (h.fzr j (by omega) hne o)
 ·by_cases e : j = k
  ·subst e; rw [if_pos rfl, if_pos rfl]; exact hV
  ·rw [if_neg e, if_neg e]; exact h.us j (by omega)
 ·by_cases e : j = k
  ·subst e
   rw [if_pos rfl]
   obtain ⟨r1, r2, r3⟩ := hr hne
   exact fun i hi => ⟨hcell (by omega) (r1 i hi).1, hcell (by omega) (r1 i hi).2.1, hcell (by omega) (r1 i hi).2.2⟩
  ·rw [if_neg e]
   have hl := h.lt j (by omega) hne
   have hrw := (h.row j (by omega) hne).keep b5
   exact fun i hi => ⟨hcell (by omega) (hrw i hi).1, hcell (by omega) (hrw i hi).2.1, hcell (by omega) (hrw i hi).2.2⟩
 ·by_cases e : j = k
  ·subst e
   rw [if_pos rfl]
   obtain ⟨r1, r2, r3⟩ := hr hne
   have hlt := zl (r1 0 (List.length_pos_iff.2 hne)).1
   exact ⟨by omega, by simp [World.setCell]; omega⟩
  ·rw [if_neg e]
   have hl := h.lt j (by omega) hne
   exact ⟨by omega, by simp [World.setCell]; omega⟩
 ·by_cases e : j = k
  ·subst e
   rw [if_pos rfl, if_neg (by omega)]
   obtain ⟨r1, r2, r3⟩ := hr hjn
   have hl := h.lt i (by omega) hi
   omega
  ·rw [if_neg e, if_neg (by omega)]
   exact h.inc i j hij (by omega) hi hjn
theorem CpSt.done {w : World} {n : Nat} {ss : List St} {U : Nat → Value} {cb : Nat → Nat} {wr : World} (h : CpSt w n ss ss.length U cb wr) (v : Value) : HOwn (wr.setCell ⟨w.heap.size + 1, 0, none⟩ v) w.heap.size (w.heap.size + 2) cb ss := by
 have hs3 := zl h.b0
 have hblk : ∀ b, b ≠ w.heap.size + 1 → (wr.setCell ⟨w.heap.size + 1, 0, none⟩ v).heap[b]? = wr.heap[b]? := fun b hb => Below.heap_setCell _ _ _ _ hb
 have hcell : ∀ {b o x}, b ≠ w.heap.size + 1 → wr.cell? ⟨b, o, none⟩ = some x → (wr.setCell ⟨w.heap.size + 1, 0, none⟩ v).cell? ⟨b, o, none⟩ = some x := fun {b o x} hb hc => (World.cell?_of_block (w := wr) (a := ⟨b, o, none⟩) (hblk b hb)).trans hc
 refine ⟨fun j hj => ?_, fun j hj => ?_, fun j hj hne => ?_, fun o => ?_, fun j hj hne o => ?_, by omega, by simp [World.setCell]; omega, fun j hj hne => ?_, h.inc⟩
 ·exact hcell (by omega) ((h.own.cellAt _ (by omega)).trans (zk5 U ss ss.length j hj).1)
 ·obtain ⟨sa, cap, h1, h2⟩ := h.us j hj
  exact ⟨sa, cap, hcell (by omega) (((h.own.cellAt _ (by omega)).trans (zk5 U ss ss.length j hj).2).trans (by rw [h1])), h2⟩
 ·have hl := h.lt j hj hne
  have hrw := h.row j hj hne
  exact fun i hi => ⟨hcell (by omega) (hrw i hi).1, hcell (by omega) (hrw i hi).2.1, hcell (by omega) (hrw i hi).2.2⟩
 ·rw [World.frozen?_setCell]; exact h.own.frozenAt o
 ·rw [World.frozen?_setCell]; exact h.fzr j hj hne o
 ·have := h.lt j hj hne; omega
theorem zo11 {w : World} {v : Value} {ss : List St} (h : SV w v ss) (hl : SL ss 1048576) :
  Calls Tryz.prog 68 #[γ #[v]] w fun e w' => ∃ g cb, e = .returned (γ #[σ (some ⟨g, 0, none⟩) ss.length ss.length]) ∧ HOwn w' w.heap.size g cb ss ∧ Bel w w' := by
 obtain ⟨i0, hi0, hz0, hz1, hz2⟩ := info_parts zy10
 obtain ⟨i6, hi6, hx0, hx1, hx2⟩ := info_parts zk4
 obtain ⟨sa, cap, rfl, hx⟩ := h
 have hl1 := hl.1
 have x1 : Ext w ((w.alloc (χ #[σ sa ss.length cap] 25)).alloc (χ #[σ none 0 0] 25)) := ((Ext.refl w).alloc _ _).alloc _ _
 have hmk := run_make (P := Tryz.prog) ((w.alloc (χ #[σ sa ss.length cap] 25)).alloc (χ #[σ none 0 0] 25)) 23 41 i0 (γ #[O ι 0, σ none 0 0]) Tryz.underlying23 hi0 hz0 .i64 .i64 0 ss.length (by omega) (by omega) (by rw [hz2]; omega) (by omega)
 simp only [Int.toNat_natCast] at hmk
 have hs2 : ((w.alloc (χ #[σ sa ss.length cap] 25)).alloc (χ #[σ none 0 0] 25)).heap.size = w.heap.size + 1 + 1 := by simp
 have S0 : Hid (CpSt w ss.length ss 0 (fun _ => σ none 0 0) (fun _ => 0) ((((w.alloc (χ #[σ sa ss.length cap] 25)).alloc (χ #[σ none 0 0] 25)).alloc (χ (madeCells #[O ι 0, σ none 0 0] (ss.length * 2)) 41)).alloc (χ #[σ (some ⟨w.heap.size + 1 + 1, 0, none⟩) 0 ss.length] 25))) := by
  have x3 : Ext ((w.alloc (χ #[σ sa ss.length cap] 25)).alloc (χ #[σ none 0 0] 25)) ((((w.alloc (χ #[σ sa ss.length cap] 25)).alloc (χ #[σ none 0 0] 25)).alloc (χ (madeCells #[O ι 0, σ none 0 0] (ss.length * 2)) 41)).alloc (χ #[σ (some ⟨w.heap.size + 1 + 1, 0, none⟩) 0 ss.length] 25)) := ((Ext.refl _).alloc _ _).alloc _ _
  refine ⟨(x1.trans x3).bl, ?_, ?_, ?_, (x1.trans x3).unfrozen (by omega) 0, (x1.trans x3).unfrozen (by omega) 0, fun j hj => by omega, fun j hj => by omega, fun j hj => by omega, fun j hj => by omega, fun i j h1 h2 => by omega⟩
  ·exact zg _ #[σ (some ⟨w.heap.size + 1 + 1, 0, none⟩) 0 ss.length] 25 (w.heap.size + 3) (by simp) 0
  ·refine World.ownsRow.alloc ?_ _
   have h := World.ownsRow_made (base := w.heap.size + 2) (e := 41) (size := 2) ((w.alloc (χ #[σ sa ss.length cap] 25)).alloc (χ #[σ none 0 0] 25)) (madeCells #[O ι 0, σ none 0 0] (ss.length * 2)) ss.length (by rw [hs2]; omega) (by unfold maxLen; omega) (by simp [madeCells])
   rw [hs2] at h
   exact h
  ·exact x3.box (zg (w.alloc (χ #[σ sa ss.length cap] 25)) #[σ none 0 0] 25 (w.heap.size + 1) (by simp) 0)
 have HX := hide hx
 have HL := hide hl
 clear hx hl x1 hs2
 go_enter Tryz.func68, Tryz.ntmps68
 go_wp2_with fail
 clear hmk
 generalize ((((w.alloc (χ #[σ sa ss.length cap] 25)).alloc (χ #[σ none 0 0] 25)).alloc (χ (madeCells #[O ι 0, σ none 0 0] (ss.length * 2)) 41)).alloc (χ #[σ (some ⟨w.heap.size + 1 + 1, 0, none⟩) 0 ss.length] 25)) = W2 at S0 ⊢
 go_loopw [14] (fun i wr => ∃ (k : Nat) (U : Nat → Value) (cb : Nat → Nat), i = O ι k ∧ k ≤ ss.length ∧ CpSt w ss.length ss k U cb wr) (fun i _ => ss.length - (intOf i).toNat)
 case atStart => exact ⟨0, _, _, rfl, by omega, S0.out⟩
 case round =>
  obtain ⟨k, U, cb, rfl, hk, hC⟩ := hrel
  have HC := hide hC
  clear S0
  by_cases hlt : k < ss.length
  ·rcases HX.out with h0 | ⟨b, off, rfl, hrow⟩
   ·rw [h0] at hlt; simp at hlt
   obtain ⟨q0, u, q1, q2⟩ := (hrow.keep hC.bl) k hlt
   have hcl := HL.out.at k hlt
   have hk0 : (0 : Int) ≤ (k : Int) := Int.natCast_nonneg _
   have hk1 : (k : Int) < (ss.length : Int) := by omega
   have Q2 := hide q2
   have c3 := hC.b0
   generalize hD : (ss.getD k s0).1 = D at q0
   generalize hcs : (ss.getD k s0).2 = cs at q2 hcl Q2
   have HD := hide hD
   have Hcs := hide hcs
   clear hrow hD hcs q2
   obtain ⟨su, cu, rfl, hcv⟩ := Q2.out
   clear hC
   have xb : Ext wr (wr.alloc (χ #[O ι D, σ su cs.length cu] 41)) := (Ext.refl wr).alloc _ _
   have nb := fun j => zg wr #[O ι D, σ su cs.length cu] 41 wr.heap.size rfl j
   have HS : Hid (∀ W', Bel (wr.alloc (χ #[O ι D, σ su cs.length cu] 41)) W' → (fun w' => w'.cell? ⟨w.heap.size + 1 + 1 + 1, 0, none⟩ = some (σ (some ⟨w.heap.size + 1 + 1, 0, none⟩) k ss.length) ∧ w'.cell? ⟨wr.heap.size, 0, none⟩ = some (O ι D) ∧ w'.cell? ⟨wr.heap.size, 1, none⟩ = some (σ su cs.length cu)) W') := fun W' h => ⟨Bel.box h (xb.box c3), Bel.box h (nb 0), Bel.box h (nb 1)⟩
   have HB0 : Hid (Bel (wr.alloc (χ #[O ι D, σ su cs.length cu] 41)) ((wr.alloc (χ #[O ι D, σ su cs.length cu] 41))).drew) := (Below.refl _ _).drew
   have SA := hide (HS.out _ HB0.out)
   have XB := hide xb.bl
   have hsb : ((wr.alloc (χ #[O ι D, σ su cs.length cu] 41))).heap.size = wr.heap.size + 1 := by simp
   have Hsb := hide hsb
   clear xb nb hsb c3
   go_wp2_with fail
   generalize hBX : (wr.alloc (χ #[O ι D, σ su cs.length cu] 41)) = BX at *
   have HNW : Hid (∀ (W : World) (V : Value), ∀ j u, ([O ι D, V] : List Value)[j]? = some u → (W.alloc (χ #[O ι D, V] 41)).cell? ((⟨W.heap.size, 0, none⟩ : Addr).add j) = some u) := fun W V j u hj => by
    rw [Addr.add_lit, Nat.zero_add, zg W _ 41 _ rfl j]
    simpa using hj
   rcases Classical.em (cs = []) with h0 | h0
   ·subst h0
    refine zv (S := (fun w' : World => w'.cell? ⟨w.heap.size + 1 + 1 + 1, 0, none⟩ = some (σ (some ⟨w.heap.size + 1 + 1, 0, none⟩) k ss.length) ∧ w'.cell? ⟨wr.heap.size, 0, none⟩ = some (O ι D) ∧ w'.cell? ⟨wr.heap.size, 1, none⟩ = some (σ su 0 cu))) (late := [12]) (by kernel_rfl) ?_
    refine zd (i := 0) (v := π (some ⟨w.heap.size + 1 + 1 + 1, 0, none⟩)) rfl (by kernel_rfl) (by kernel_rfl) (fun _ _ _ h => by cases h.1) _ (by kernel_rfl) (by kernel_rfl) (Or.inl ⟨by rfl, ?_⟩) SA.out ?_
    ·rintro w' ⟨z0, z1, z2⟩
     go_simp
    simp only [aP, sT, sZ, sS]
    refine zd (i := 1) (v := σ (some ⟨w.heap.size + 1 + 1, 0, none⟩) k ss.length) rfl (by kernel_rfl) (by kernel_rfl) (fun _ _ _ h => by cases h.1) _ (by kernel_rfl) (by kernel_rfl) (Or.inl ⟨by rfl, ?_⟩) SA.out ?_
    ·rintro w' ⟨z0, z1, z2⟩
     go_simp
    simp only [aP, sT, sZ, sS]
    refine zd (i := 2) (v := π (some ⟨wr.heap.size, 0, none⟩)) rfl (by kernel_rfl) (by kernel_rfl) (fun _ _ _ h => by cases h.1) _ (by kernel_rfl) (by kernel_rfl) (Or.inl ⟨by rfl, ?_⟩) SA.out ?_
    ·rintro w' ⟨z0, z1, z2⟩
     go_simp
    simp only [aP, sT, sZ, sS]
    refine zd (i := 3) (v := O ι D) rfl (by kernel_rfl) (by kernel_rfl) (fun _ _ _ h => by cases h.1) _ (by kernel_rfl) (by kernel_rfl) (Or.inl ⟨by rfl, ?_⟩) SA.out ?_
    ·rintro w' ⟨z0, z1, z2⟩
     go_simp
    simp only [aP, sT, sZ, sS]
    refine zd (i := 5) (v := π (some ⟨wr.heap.size, 1, none⟩)) rfl (by kernel_rfl) (by kernel_rfl) (fun _ _ _ h => by cases h.1) _ (by kernel_rfl) (by kernel_rfl) (Or.inl ⟨by rfl, ?_⟩) SA.out ?_
    ·rintro w' ⟨z0, z1, z2⟩
     go_simp
    simp only [aP, sT, sZ, sS]
    refine zd (i := 6) (v := σ su 0 cu) rfl (by kernel_rfl) (by kernel_rfl) (fun _ _ _ h => by cases h.1) _ (by kernel_rfl) (by kernel_rfl) (Or.inl ⟨by rfl, ?_⟩) SA.out ?_
    ·rintro w' ⟨z0, z1, z2⟩
     go_simp
    simp only [aP, sT, sZ, sS]
    refine ze (i := 4) (by kernel_rfl) rfl (fun K hK => ?_)
    go_simp
    refine hK.out _ _ (fun _ => HS.out _ (Below.alloc HB0.out HB0.out.size _)) ?_
    clear hK K
    try simp only [aP, sT, sZ, sS]
    have HBL : Hid (Bel BX (BX.alloc (χ #[] 47)).drew) := Below.alloc HB0.out HB0.out.size (χ #[] 47)
    refine ze (i := 7) (by kernel_rfl) rfl (fun K hK => ?_)
    refine zk6 (by rfl) (.tmp 22) (.tmp 24) 39 (by rfl) 47 i6 Tryz.underlying39 hi6 ⟨BX.heap.size, 0, none⟩ 0 0 (by omega) (by rfl) su cu (by rfl) ?_
    refine hK.out _ _ (fun _ => HS.out _ HBL.out) ?_
    clear hK K
    try simp only [aP, sT, sZ, sS]
    generalize hW5 : (BX.alloc (χ #[] 47)).drew = W5 at HBL ⊢
    have hB5 : BX.heap.size + 1 = W5.heap.size := by rw [← hW5]; simp [World.drew]
    clear hW5
    refine zd (i := 8) (v := γ #[O ι D, σ (some ⟨BX.heap.size, 0, none⟩) 0 0]) rfl (by kernel_rfl) (by kernel_rfl) (fun _ _ _ h => by cases h.1) _ (by kernel_rfl) (by kernel_rfl) (Or.inl ⟨by rfl, ?_⟩) (HS.out _ HBL.out) ?_
    ·rintro w' ⟨z0, z1, z2⟩
     go_simp
    simp only [aP, sT, sZ, sS]
    refine ze (i := 9) (by kernel_rfl) rfl (fun K hK => ?_)
    go_simp
    refine hK.out _ _ (fun _ => HS.out _ (Below.alloc HBL.out HBL.out.size _)) ?_
    clear hK K
    try simp only [aP, sT, sZ, sS]
    refine ze (i := 10) (by kernel_rfl) rfl (fun K hK => ?_)
    refine zq1 (by rfl) (.tmp 19) (.tmp 27) 23 (by rfl) (w.heap.size + 2) 41 i0 2 Tryz.underlying23 hi0 hz1 (w.heap.size + 2) k ss.length (flatS U ss k) (by rfl) ((zi12 HC.out.own (Bel.tr XB.out HBL.out)).alloc _) ⟨W5.heap.size, 0, none⟩ 1 1 [O ι D, σ (some ⟨BX.heap.size, 0, none⟩) 0 0] (by rfl) (by rfl) (HNW.out _ _) (by simp [Value.oneCell']) (by omega) ?_
    intro w7 hown7 hgrow7
    have S7 : Hid ((fun w' : World => w'.cell? ⟨w.heap.size + 1 + 1 + 1, 0, none⟩ = some (σ (some ⟨w.heap.size + 1 + 1, 0, none⟩) k ss.length) ∧ w'.cell? ⟨wr.heap.size, 0, none⟩ = some (O ι D) ∧ w'.cell? ⟨wr.heap.size, 1, none⟩ = some (σ su 0 cu)) w7) := ⟨zw hgrow7 (by omega) (HS.out _ (Below.alloc HBL.out HBL.out.size _)).1, zw hgrow7 (by have := zl HC.out.b0; omega) (HS.out _ (Below.alloc HBL.out HBL.out.size _)).2.1, zw hgrow7 (by have := zl HC.out.b0; omega) (HS.out _ (Below.alloc HBL.out HBL.out.size _)).2.2⟩
    have c7 : w7.cell? ⟨w.heap.size + 1 + 1 + 1, 0, none⟩ = some (σ (some ⟨w.heap.size + 1 + 1, 0, none⟩) k ss.length) := S7.out.1
    have f7 : w7.frozen? ⟨w.heap.size + 1 + 1 + 1, 0, none⟩ = false := by
     have h3 := zl HC.out.b0
     have h5 := (Bel.tr XB.out HBL.out).size
     have e1 := hgrow7.block (w.heap.size + 3) (by rw [World.size_alloc]; omega) (by simp)
     have e2 := (Below.alloc (Bel.tr XB.out HBL.out) (Bel.tr XB.out HBL.out).size (χ #[O ι D, σ (some ⟨BX.heap.size, 0, none⟩) 0 0] 41)).block (w.heap.size + 3) h3
     exact (World.frozen?_of_block (w := wr) (a := ⟨w.heap.size + 3, 0, none⟩) (e1.trans e2)).trans HC.out.f3
    refine hK.out _ _ (fun _ => S7.out) ?_
    clear hK K
    try simp only [aP, sT, sZ, sS]
    have HST := hide (HC.out.step (Bel.tr XB.out HBL.out) (σ (some ⟨BX.heap.size, 0, none⟩) 0 0) 0 (⟨_, _, by rw [Hcs.out]; rfl, Or.inl Hcs.out⟩) (fun hne => absurd Hcs.out hne) (by rw [HD.out]; exact hown7) hgrow7)
    clear hown7 hgrow7
    refine zd (i := 11) (v := π (some ⟨w.heap.size + 1 + 1 + 1, 0, none⟩)) rfl (by kernel_rfl) (by kernel_rfl) (fun _ _ _ h => by cases h.1) _ (by kernel_rfl) (by kernel_rfl) (Or.inl ⟨by rfl, ?_⟩) S7.out ?_
    ·rintro w' ⟨z0, z1, z2⟩
     go_simp
    simp only [aP, sT, sZ, sS]
    refine ze (i := 12) (by kernel_rfl) rfl (fun K hK => ?_)
    go_simp
    refine hK.out _ _ (fun h => absurd h (by decide)) ?_
    clear hK K
    try simp only [aP, sT, sZ, sS]
    refine zm (by kernel_rfl) ?_ _
    refine ⟨rfl, ?_⟩
    go_wp2_with fail
    go_roundw
    ·exact ⟨k + 1, _, _, by go_num, by omega, HST.out⟩
    ·simp [intOf]; omega
   ·have hpos : 0 < cs.length := List.length_pos_iff.2 h0
    obtain ⟨bc, oc, rfl, hcr⟩ := hcv.resolve_left h0
    have HNC : Hid (∀ W : World, Bel wr W → ∀ j u, (flat cs)[j]? = some u → W.cell? ((⟨bc, oc, none⟩ : Addr).add j) = some u) := fun W hW j u hj => by
     rw [Addr.add_lit]
     exact zk17 (hcr.keep hW) j u hj
    refine zv (S := (fun w' : World => w'.cell? ⟨w.heap.size + 1 + 1 + 1, 0, none⟩ = some (σ (some ⟨w.heap.size + 1 + 1, 0, none⟩) k ss.length) ∧ w'.cell? ⟨wr.heap.size, 0, none⟩ = some (O ι D) ∧ w'.cell? ⟨wr.heap.size, 1, none⟩ = some (σ (some ⟨bc, oc, none⟩) cs.length cu))) (late := [12]) (by kernel_rfl) ?_
    refine zd (i := 0) (v := π (some ⟨w.heap.size + 1 + 1 + 1, 0, none⟩)) rfl (by kernel_rfl) (by kernel_rfl) (fun _ _ _ h => by cases h.1) _ (by kernel_rfl) (by kernel_rfl) (Or.inl ⟨by rfl, ?_⟩) SA.out ?_
    ·rintro w' ⟨z0, z1, z2⟩
     go_simp
    simp only [aP, sT, sZ, sS]
    refine zd (i := 1) (v := σ (some ⟨w.heap.size + 1 + 1, 0, none⟩) k ss.length) rfl (by kernel_rfl) (by kernel_rfl) (fun _ _ _ h => by cases h.1) _ (by kernel_rfl) (by kernel_rfl) (Or.inl ⟨by rfl, ?_⟩) SA.out ?_
    ·rintro w' ⟨z0, z1, z2⟩
     go_simp
    simp only [aP, sT, sZ, sS]
    refine zd (i := 2) (v := π (some ⟨wr.heap.size, 0, none⟩)) rfl (by kernel_rfl) (by kernel_rfl) (fun _ _ _ h => by cases h.1) _ (by kernel_rfl) (by kernel_rfl) (Or.inl ⟨by rfl, ?_⟩) SA.out ?_
    ·rintro w' ⟨z0, z1, z2⟩
     go_simp
    simp only [aP, sT, sZ, sS]
    refine zd (i := 3) (v := O ι D) rfl (by kernel_rfl) (by kernel_rfl) (fun _ _ _ h => by cases h.1) _ (by kernel_rfl) (by kernel_rfl) (Or.inl ⟨by rfl, ?_⟩) SA.out ?_
    ·rintro w' ⟨z0, z1, z2⟩
     go_simp
    simp only [aP, sT, sZ, sS]
    refine zd (i := 5) (v := π (some ⟨wr.heap.size, 1, none⟩)) rfl (by kernel_rfl) (by kernel_rfl) (fun _ _ _ h => by cases h.1) _ (by kernel_rfl) (by kernel_rfl) (Or.inl ⟨by rfl, ?_⟩) SA.out ?_
    ·rintro w' ⟨z0, z1, z2⟩
     go_simp
    simp only [aP, sT, sZ, sS]
    refine zd (i := 6) (v := σ (some ⟨bc, oc, none⟩) cs.length cu) rfl (by kernel_rfl) (by kernel_rfl) (fun _ _ _ h => by cases h.1) _ (by kernel_rfl) (by kernel_rfl) (Or.inl ⟨by rfl, ?_⟩) SA.out ?_
    ·rintro w' ⟨z0, z1, z2⟩
     go_simp
    simp only [aP, sT, sZ, sS]
    refine ze (i := 4) (by kernel_rfl) rfl (fun K hK => ?_)
    go_simp
    refine hK.out _ _ (fun _ => HS.out _ (Below.alloc HB0.out HB0.out.size _)) ?_
    clear hK K
    try simp only [aP, sT, sZ, sS]
    have HBL : Hid (Bel BX (BX.alloc (χ #[] 47)).drew) := Below.alloc HB0.out HB0.out.size (χ #[] 47)
    refine ze (i := 7) (by kernel_rfl) rfl (fun K hK => ?_)
    refine step_append_lies _ (by rfl) (.tmp 22) (.tmp 24) 39 (by rfl) BX.heap.size 47 i6 (γ #[O ι 0, .float .f64 0, .float .f64 0]) 3 24 Tryz.underlying39 hi6 hx0 hx1 hx2 rfl (by decide) (σ (some ⟨BX.heap.size, 0, none⟩) 0 0) 0 [] (by rfl) (World.ownsRow_lit (base := BX.heap.size) (e := 47) (size := 3) BX.drew #[] 0 (Nat.le_refl _) (by unfold maxLen; omega) (by simp)) ⟨bc, oc, none⟩ cs.length cu (flat cs) (by rfl) (za4 cs) (HNC.out _ (Bel.tr XB.out HBL.out)) (flat_one' cs) hpos (by unfold maxLen; omega) (by omega) (by simp) (BX.heap.size + 1) (by simp) ?_
    intro g5 cap5 W5 hown5 hgrow5 hat5 hlt5
    have HBL5 : Hid (Bel BX W5) := Below.grown HBL.out hgrow5 (by have := HBL.out.size; omega) (fun j hj => by simp [Value.ownBlock] at hj; omega)
    rw [Nat.zero_add, List.nil_append] at hown5
    have HO5 := hide hown5
    clear hown5 hgrow5 hat5 hlt5 HBL
    refine hK.out _ _ (fun _ => HS.out _ HBL5.out) ?_
    clear hK K
    try simp only [aP, sT, sZ, sS]
    have HBL := HBL5
    clear HBL5
    refine zd (i := 8) (v := γ #[O ι D, σ (some ⟨g5, 0, none⟩) cs.length cap5]) rfl (by kernel_rfl) (by kernel_rfl) (fun _ _ _ h => by cases h.1) _ (by kernel_rfl) (by kernel_rfl) (Or.inl ⟨by rfl, ?_⟩) (HS.out _ HBL.out) ?_
    ·rintro w' ⟨z0, z1, z2⟩
     go_simp
    simp only [aP, sT, sZ, sS]
    refine ze (i := 9) (by kernel_rfl) rfl (fun K hK => ?_)
    go_simp
    refine hK.out _ _ (fun _ => HS.out _ (Below.alloc HBL.out HBL.out.size _)) ?_
    clear hK K
    try simp only [aP, sT, sZ, sS]
    refine ze (i := 10) (by kernel_rfl) rfl (fun K hK => ?_)
    refine zq1 (by rfl) (.tmp 19) (.tmp 27) 23 (by rfl) (w.heap.size + 2) 41 i0 2 Tryz.underlying23 hi0 hz1 (w.heap.size + 2) k ss.length (flatS U ss k) (by rfl) ((zi12 HC.out.own (Bel.tr XB.out HBL.out)).alloc _) ⟨W5.heap.size, 0, none⟩ 1 1 [O ι D, σ (some ⟨g5, 0, none⟩) cs.length cap5] (by rfl) (by rfl) (HNW.out _ _) (by simp [Value.oneCell']) (by omega) ?_
    intro w7 hown7 hgrow7
    have S7 : Hid ((fun w' : World => w'.cell? ⟨w.heap.size + 1 + 1 + 1, 0, none⟩ = some (σ (some ⟨w.heap.size + 1 + 1, 0, none⟩) k ss.length) ∧ w'.cell? ⟨wr.heap.size, 0, none⟩ = some (O ι D) ∧ w'.cell? ⟨wr.heap.size, 1, none⟩ = some (σ (some ⟨bc, oc, none⟩) cs.length cu)) w7) := ⟨zw hgrow7 (by omega) (HS.out _ (Below.alloc HBL.out HBL.out.size _)).1, zw hgrow7 (by have := zl HC.out.b0; omega) (HS.out _ (Below.alloc HBL.out HBL.out.size _)).2.1, zw hgrow7 (by have := zl HC.out.b0; omega) (HS.out _ (Below.alloc HBL.out HBL.out.size _)).2.2⟩
    have c7 : w7.cell? ⟨w.heap.size + 1 + 1 + 1, 0, none⟩ = some (σ (some ⟨w.heap.size + 1 + 1, 0, none⟩) k ss.length) := S7.out.1
    have f7 : w7.frozen? ⟨w.heap.size + 1 + 1 + 1, 0, none⟩ = false := by
     have h3 := zl HC.out.b0
     have h5 := (Bel.tr XB.out HBL.out).size
     have e1 := hgrow7.block (w.heap.size + 3) (by rw [World.size_alloc]; omega) (by simp)
     have e2 := (Below.alloc (Bel.tr XB.out HBL.out) (Bel.tr XB.out HBL.out).size (χ #[O ι D, σ (some ⟨g5, 0, none⟩) cs.length cap5] 41)).block (w.heap.size + 3) h3
     exact (World.frozen?_of_block (w := wr) (a := ⟨w.heap.size + 3, 0, none⟩) (e1.trans e2)).trans HC.out.f3
    refine hK.out _ _ (fun _ => S7.out) ?_
    clear hK K
    try simp only [aP, sT, sZ, sS]
    have HST := hide (HC.out.step (Bel.tr XB.out HBL.out) (σ (some ⟨g5, 0, none⟩) cs.length cap5) g5 (⟨_, _, by rw [Hcs.out], Or.inr rfl⟩) (fun _ => by rw [Hcs.out]; exact ⟨zo3 HO5.out rfl, Nat.le_trans (by rw [Hsb.out]; omega) (zv13 HO5.out hpos), fun o => HO5.out.frozenAt o⟩) (by rw [HD.out]; exact hown7) hgrow7)
    clear hown7 hgrow7
    refine zd (i := 11) (v := π (some ⟨w.heap.size + 1 + 1 + 1, 0, none⟩)) rfl (by kernel_rfl) (by kernel_rfl) (fun _ _ _ h => by cases h.1) _ (by kernel_rfl) (by kernel_rfl) (Or.inl ⟨by rfl, ?_⟩) S7.out ?_
    ·rintro w' ⟨z0, z1, z2⟩
     go_simp
    simp only [aP, sT, sZ, sS]
    refine ze (i := 12) (by kernel_rfl) rfl (fun K hK => ?_)
    go_simp
    refine hK.out _ _ (fun h => absurd h (by decide)) ?_
    clear hK K
    try simp only [aP, sT, sZ, sS]
    refine zm (by kernel_rfl) ?_ _
    refine ⟨rfl, ?_⟩
    go_wp2_with fail
    go_roundw
    ·exact ⟨k + 1, _, _, by go_num, by omega, HST.out⟩
    ·simp [intOf]; omega
  ·have hkk : k = ss.length := by omega
   subst hkk
   have c1 := HC.out.rs0
   have f1 := HC.out.f1
   have c3 := HC.out.b0
   clear hC
   go_wp2
   refine bodyPost_ret (v := γ #[σ (some ⟨w.heap.size + 2, 0, none⟩) ss.length ss.length]) (by simp [results, Tryz.results68, go_sem, c1]) rfl ⟨_, cb, rfl, HC.out.done _, HC.out.bl.setCell (p := ⟨w.heap.size + 1, 0, none⟩) (by show _ ≤ w.heap.size + 1; omega) _⟩
end
section
open Go.RowKit
theorem zd6 (a b : Int) (w : World) :
  Calls Tryz.prog 52 #[O ι a, O ι b] w fun e w' => e = .returned (O ι (promL a b)) ∧ w' = w := by
 go_enter Tryz.func52, Tryz.ntmps52
 go_wp2_with (go_at_call 55; refine (zk _ _).mono ?_; rintro e w' ⟨rfl, rfl⟩)
 all_goals go_ret
 all_goals refine ⟨zm1 ?_, rfl⟩
 all_goals go_light
 all_goals (simp only [isDtB, Bool.not_eq_true', Bool.not_eq_false', decide_eq_true_eq, decide_eq_false_iff_not, beq_iff_eq, beq_eq_false_iff_ne, ne_eq] at *; unfold promL; omega)
theorem za11 (a b : Int) (w : World) :
  Calls Tryz.prog 88 #[O ι a, O ι b] w fun e w' => e = .returned (O ι (promL a b)) ∧ w' = w := by
 go_enter Tryz.func88, Tryz.ntmps88
 go_wp2_with (go_at_call 87; refine (zd2 _ _).mono ?_; rintro e w' ⟨rfl, rfl⟩)
 all_goals go_ret
 all_goals refine ⟨zm1 ?_, rfl⟩
 all_goals go_light
 all_goals (simp only [isDtB, Bool.not_eq_true', Bool.not_eq_false', decide_eq_true_eq, decide_eq_false_iff_not, beq_iff_eq, beq_eq_false_iff_ne, ne_eq] at *; unfold promL; omega)
theorem zf10 (f t r : Int) (w : World) :
  Calls Tryz.prog 70 #[O ι f, O ι t, O ι r] w fun e w' => e = .returned (.bool (castL f t r)) ∧ w' = w := by
 go_enter Tryz.func70, Tryz.ntmps70
 go_wp2_with (first | (go_at_call 55; refine (zk _ _).mono ?_; rintro e w' ⟨rfl, rfl⟩) | (go_at_call 52; refine (zd6 _ _ _).mono ?_; rintro e w' ⟨rfl, rfl⟩) | (go_at_call 71; refine (zo _ _).mono ?_; rintro e w' ⟨rfl, rfl⟩))
 all_goals go_ret
 all_goals refine ⟨zn ?_, rfl⟩
 all_goals go_light
 all_goals (rw [Bool.eq_iff_iff]; simp only [castL, isDtB, Bool.not_eq_true', Bool.not_eq_false', decide_eq_true_eq, decide_eq_false_iff_not, beq_iff_eq, beq_eq_false_iff_ne, ne_eq, Bool.or_eq_true, Bool.false_eq_true, false_iff, true_iff] at *; have e1 := zm6 f; have e2 := zm6 t; omega)
theorem zu2 (f t r : Int) (w : World) :
  Calls Tryz.prog 63 #[O ι f, O ι t, O ι r] w fun e w' => e = .returned (.bool (castL f t r)) ∧ w' = w := by
 go_enter Tryz.func63, Tryz.ntmps63
 go_wp2_with (first | (go_at_call 87; refine (zd2 _ _).mono ?_; rintro e w' ⟨rfl, rfl⟩) | (go_at_call 88; refine (za11 _ _ _).mono ?_; rintro e w' ⟨rfl, rfl⟩) | (go_at_call 89; refine (zx1 _ _).mono ?_; rintro e w' ⟨rfl, rfl⟩))
 all_goals go_ret
 all_goals refine ⟨zn ?_, rfl⟩
 all_goals go_light
 all_goals (rw [Bool.eq_iff_iff]; simp only [castL, isDtB, Bool.not_eq_true', Bool.not_eq_false', decide_eq_true_eq, decide_eq_false_iff_not, beq_iff_eq, beq_eq_false_iff_ne, ne_eq, Bool.or_eq_true, Bool.false_eq_true, false_iff, true_iff] at *; have e1 := zm6 f; have e2 := zm6 t; omega)
end
section
open Go.RowKit FL
theorem zl1 (x : Nat) (w : World) :
  Calls Tryz.prog 74 #[O ι 8, .float .f64 x] w fun e w' => e = .returned (.float .f64 x) ∧ w' = w := by
 go_enter Tryz.func74, Tryz.ntmps74
 go_wp2
 go_ret
 exact ⟨rfl, rfl⟩
end
section
open Go.ChangeShapes Go.RowKit FL
theorem HOwn.keep {w w' : World} {lo g : Nat} {cb : Nat → Nat} {ss : List St} (h : HOwn w lo g cb ss) (hb : ∀ b, lo ≤ b → b < w.heap.size → w'.heap[b]? = w.heap[b]?) (hs : w.heap.size ≤ w'.heap.size) : HOwn w' lo g cb ss := by
 have hlg := h.lo_g
 have hc : ∀ {b o x}, lo ≤ b → w.cell? ⟨b, o, none⟩ = some x → w'.cell? ⟨b, o, none⟩ = some x := fun {b o x} hl hx => (World.cell?_of_block (w := w) (a := ⟨b, o, none⟩) (hb b hl (zl hx))).trans hx
 refine ⟨fun j hj => hc h.lo_g (h.dt j hj), fun j hj => ?_, fun j hj hne => ?_, fun o => (World.frozen?_of_block (w := w) (a := ⟨g, o, none⟩) (hb g h.lo_g h.g_lt)).trans (h.fz o), fun j hj hne o => ?_, h.lo_g, Nat.lt_of_lt_of_le h.g_lt hs, h.g_cb, h.inc⟩
 ·obtain ⟨sa, cap, h1, h2⟩ := h.sl j hj
  exact ⟨sa, cap, hc h.lo_g h1, h2⟩
 ·have hl : lo ≤ cb j := by have := h.g_cb j hj hne; omega
  have hr := h.row j hj hne
  exact fun i hi => ⟨hc hl (hr i hi).1, hc hl (hr i hi).2.1, hc hl (hr i hi).2.2⟩
 ·have hl : lo ≤ cb j := by have := h.g_cb j hj hne; omega
  have hlt := zl (h.row j hj hne 0 (List.length_pos_iff.2 hne)).1
  exact (World.frozen?_of_block (w := w) (a := ⟨cb j, o, none⟩) (hb _ hl hlt)).trans (h.fzr j hj hne o)
theorem HOwn.lower {w : World} {lo lo' g : Nat} {cb : Nat → Nat} {ss : List St} (h : HOwn w lo g cb ss) (hl : lo' ≤ lo) : HOwn w lo' g cb ss :=
 ⟨h.dt, h.sl, h.row, h.fz, h.fzr, Nat.le_trans hl h.lo_g, h.g_lt, h.g_cb, h.inc⟩
def set3 (w : World) (b o : Nat) (x : Nat) : World := ((w.setCell ⟨b, o, none⟩ (O ι 0)).setCell ⟨b, o + 1, none⟩ (.float .f64 x)).setCell ⟨b, o + 2, none⟩ (.float .f64 0)
end
section
open Go.RowKit FL

@[go_sem] theorem unary_neg_float (k : FloatKind) (b : Nat) : Op.unary .neg (.float k b) = pure (.float k (Op.negFloat k b)) := rfl
@[go_sem] theorem unary_neg_complex (k : FloatKind) (a b : Nat) : Op.unary .neg (.complex k a b) = pure (.complex k (Op.negFloat k a) (Op.negFloat k b)) := rfl
theorem zw7 (P : Program) (w : World) (op : BinOp) (t : TypeId) (k : FloatKind) (x y : Nat) (hop : op = .add ∨ op = .sub ∨ op = .mul ∨ op = .quo) (h : floatBits op k x y = none) :
  (binOp op t (.float k x) (.float k y)).run P w = .ok (.float k ((Question.nanBits k x y).cut (w.tape w.drawn (Question.nanBits k x y)))) w.drew := by
 unfold floatBits at h
 rcases hop with rfl | rfl | rfl | rfl <;> simp only at h <;> simp [binOp, Op.floatArith, h, run_choose_drew, Question.forced]
theorem zj12 (x y t : Nat) : nanD ((Question.nanBits .f64 x y).cut t) = true ∧ (Question.nanBits .f64 x y).cut t < 18446744073709551616 := by
 rw [zk3]
 simp only [Question.cut]
 rcases Nat.mod_two_eq_zero_or_one t with h | h <;> rw [h] <;> omega
def absF (x : Nat) : Nat := x % 9223372036854775808
def arR (op : BinOp) (x y : Nat) (w : World) : Nat := match floatBits op .f64 x y with
 | some r => r
 | none => (Question.nanBits .f64 x y).cut (w.tape w.drawn (Question.nanBits .f64 x y))
def arN (op : BinOp) (x y : Nat) : Nat := match floatBits op .f64 x y with
 | some _ => 0
 | none => 1
theorem zi13 (P : Program) (w : World) (op : BinOp) (t : TypeId) (x y : Nat) (hop : op = .add ∨ op = .sub ∨ op = .mul ∨ op = .quo) :
  (binOp op t (.float .f64 x) (.float .f64 y)).run P w = .ok (.float .f64 (arR op x y w)) (w.drewN (arN op x y)) := by
 unfold arR arN
 cases h : floatBits op .f64 x y with
 | some r => exact run_float_arith w op t .f64 x y r h
 | none => exact zw7 P w op t .f64 x y hop h
theorem zs5 (P : Program) (w : World) (t : TypeId) (x y : Nat) : (binOp .add t (.float .f64 x) (.float .f64 y)).run P w = .ok (.float .f64 (arR .add x y w)) (w.drewN (arN .add x y)) := zi13 P w .add t x y (by simp)
theorem zp5 (P : Program) (w : World) (t : TypeId) (x y : Nat) : (binOp .sub t (.float .f64 x) (.float .f64 y)).run P w = .ok (.float .f64 (arR .sub x y w)) (w.drewN (arN .sub x y)) := zi13 P w .sub t x y (by simp)
theorem zr5 (P : Program) (w : World) (t : TypeId) (x y : Nat) : (binOp .mul t (.float .f64 x) (.float .f64 y)).run P w = .ok (.float .f64 (arR .mul x y w)) (w.drewN (arN .mul x y)) := zi13 P w .mul t x y (by simp)
theorem zq5 (P : Program) (w : World) (t : TypeId) (x y : Nat) : (binOp .quo t (.float .f64 x) (.float .f64 y)).run P w = .ok (.float .f64 (arR .quo x y w)) (w.drewN (arN .quo x y)) := zi13 P w .quo t x y (by simp)
theorem za22 (op : BinOp) (x y : Nat) (w : World) : B64 (arR op x y w) := by
 unfold arR B64
 cases h : floatBits op .f64 x y with
 | some r =>
  have := floatBits_wf h
  simpa [Lit.wf] using this
 | none => exact (zj12 x y _).2
theorem zt6 (n : Int) : B64 (floatOfInt .f64 n) := by
 have := floatOfInt_wf .f64 n
 simpa [Lit.wf, B64] using this
section
attribute [local go_sem] zs5 zp5 zr5 zq5
end
end
section
open Go.RowKit FL
def aNaN : Nat := 9221120237041090561
def fop (op : BinOp) (x y : Nat) : Nat := (floatBits op .f64 x y).getD aNaN
def SmL (l l' : List Nat) : Prop := l.length = l'.length ∧ ∀ i, sameB (l.getD i 0) (l'.getD i 0) = true
def pivN (c : Nat → Nat) (k : Nat) : Nat → Nat
 | 0 => k
 | m + 1 => if flt (absF (c (pivN c k m))) (absF (c (k + 1 + m))) then k + 1 + m else pivN c k m
def subTo (m : Nat) (rk ri : List Nat) (k t : Nat) : List Nat := ri.mapIdx fun j x => if k < j ∧ j < t then fop .sub x (fop .mul m (rk.getD j 0)) else x
def swapL {α : Type} (l : List α) (i j : Nat) (d : α) : List α := (l.set i (l.getD j d)).set j (l.getD i d)
abbrev Sys := List (List Nat) × List Nat
def Sys.at (s : Sys) (i j : Nat) : Nat := (s.1.getD i []).getD j 0
def Sys.rt (s : Sys) (i : Nat) : Nat := s.2.getD i 0
def Sys.sub (s : Sys) (i k : Nat) : Sys :=
 let m := fop .quo (s.at i k) (s.at k k)
 (s.1.set i (subTo m (s.1.getD k []) (s.1.getD i []) k s.1.length), s.2.set i (fop .sub (s.rt i) (fop .mul m (s.rt k))))
def Sys.subs (s : Sys) (k : Nat) : Nat → Sys
 | 0 => s
 | m + 1 => (s.subs k m).sub (k + 1 + m) k
def Sys.piv (s : Sys) (k : Nat) : Nat := pivN (fun i => s.at i k) k (s.1.length - k - 1)
def Sys.swap (s : Sys) (k p : Nat) : Sys := (swapL s.1 k p [], swapL s.2 k p 0)
def Sys.round (s : Sys) (k : Nat) : Option Sys :=
 let t := s.swap k (s.piv k)
 if nanD (t.at k k) || feq (t.at k k) 0 then none else some (t.subs k (s.1.length - k - 1))
def Sys.elim (s : Sys) : Nat → Option Sys
 | 0 => some s
 | k + 1 => (s.elim k).bind fun t => t.round k
def Sys.rest (s : Sys) (x : List Nat) (i : Nat) : Nat → Nat
 | 0 => s.rt i
 | m + 1 => fop .sub (s.rest x i m) (fop .mul (s.at i (i + 1 + m)) (x.getD (i + 1 + m) 0))
def Sys.back (s : Sys) : Nat → List Nat
 | 0 => List.replicate s.1.length 0
 | m + 1 => (s.back m).set (s.1.length - 1 - m) (fop .quo (s.rest (s.back m) (s.1.length - 1 - m) m) (s.at (s.1.length - 1 - m) (s.1.length - 1 - m)))
def Sys.Sq (s : Sys) (n : Nat) : Prop := s.1.length = n ∧ s.2.length = n ∧ ∀ i, i < n → (s.1.getD i []).length = n
structure FRow (w : World) (b : Nat) (L : List Nat) : Prop where
 cell : ∀ j, j < L.length → w.cell? ⟨b, j, none⟩ = some (.float .f64 (L.getD j 0))
 fz : ∀ o, w.frozen? ⟨b, o, none⟩ = false
 b64 : ∀ j, B64 (L.getD j 0)
structure MutP (p : Nat → Prop) (w w' : World) : Prop where
 os : w'.os = w.os
 tape : w'.tape = w.tape
 output : w'.output = w.output
 size : w.heap.size ≤ w'.heap.size
 block : ∀ k, k < w.heap.size → ¬ p k → w'.heap[k]? = w.heap[k]?
 fz : ∀ a, w'.frozen? a = w.frozen? a
def SmS (s t : Sys) : Prop := s.1.length = t.1.length ∧ (∀ i, SmL (s.1.getD i []) (t.1.getD i [])) ∧ SmL s.2 t.2
structure SysIn (w : World) (g h n : Nat) (bs : List Nat) (s : Sys) : Prop where
 sq : s.Sq n
 out : ∀ i, i < n → w.cell? ⟨g, i, none⟩ = some (σ (some ⟨bs.getD i 0, 0, none⟩) n n)
 ofz : ∀ o, w.frozen? ⟨g, o, none⟩ = false
 row : ∀ i, i < n → FRow w (bs.getD i 0) (s.1.getD i [])
 rt : FRow w h s.2
 nd : ∀ i j, i < n → j < n → i ≠ j → bs.getD i 0 ≠ bs.getD j 0
 gb : ∀ i, i < n → bs.getD i 0 ≠ g
 hb : ∀ i, i < n → bs.getD i 0 ≠ h
 gh : g ≠ h
 len : bs.length = n
section
attribute [local go_sem] zs5 zp5 zr5 zq5
end
end
section
open Go.RowKit FL Go.ChangeShapes
def fvals (L : List Nat) : List Value := L.map (.float .f64 ·)
def fcells (L : List Nat) : List C3 := L.map fun x => (0, x, 0)
end
section
open Go.ChangeShapes Go.RowKit Go.Shelf FL
attribute [local go_sem] Oper.semAt_some
def putN (cs : List C3) (L : List Int) (X : List Nat) : Nat → List C3
 | 0 => cs
 | j + 1 => (putN cs L X j).set (L.getD j 0).toNat (0, X.getD j 0, 0)
def putS (ss : List St) (m : Nat) (L : List Int) (X : List Nat) (j : Nat) : List St := ss.set m ((ss.getD m s0).1, putN (ss.getD m s0).2 L X j)
theorem ze8 {α : Type} (l : List α) (i j : Nat) (a d : α) : (l.set i a).getD j d = if i = j ∧ j < l.length then a else l.getD j d := by
 simp only [List.getD_eq_getElem?_getD, List.getElem?_set]
 by_cases h : i = j
 ·subst h
  by_cases hl : i < l.length
  ·simp [hl]
  ·simp [hl]
 ·simp [h]
theorem zx5 {α : Type} (l : List α) : l = [] ↔ l.length = 0 := by cases l <;> simp
theorem za9 {W W' : World} {row : Option Nat} (hg : W.grownBy W' row) (hr : ∀ r, row = some r → ∃ o : Obj, W.heap[r]? = some o ∧ o.isCells = false) {b q : Nat} {x : Value} (hc : W.cell? ⟨b, q, none⟩ = some x) : W'.heap[b]? = W.heap[b]? :=
 by
  obtain ⟨o, h1, h2⟩ := cells_of_cell hc
  exact grownBy_keeps_cells hg hr h1 h2
theorem HOwn.kept {A B : World} {lo g : Nat} {cb : Nat → Nat} {ss : List St} {row : Option Nat} (h : HOwn A lo g cb ss) (h0 : 0 < ss.length) (hg : A.grownBy B row) (hr : ∀ r, row = some r → ∃ o : Obj, A.heap[r]? = some o ∧ o.isCells = false) : HOwn B lo g cb ss := by
 have hbg : B.heap[g]? = A.heap[g]? := za9 hg hr (h.dt 0 h0)
 have hc : ∀ {b o x}, A.cell? ⟨b, o, none⟩ = some x → B.cell? ⟨b, o, none⟩ = some x := fun hx => cell_kept hx hg hr
 refine ⟨fun j hj => hc (h.dt j hj), fun j hj => ?_, fun j hj hne => fun i hi => ⟨hc (h.row j hj hne i hi).1, hc (h.row j hj hne i hi).2.1, hc (h.row j hj hne i hi).2.2⟩, fun o => (World.frozen?_of_block (w := A) (a := ⟨g, o, none⟩) hbg).trans (h.fz o), fun j hj hne o => ?_, h.lo_g, Nat.lt_of_lt_of_le h.g_lt hg.size, h.g_cb, h.inc⟩
 ·obtain ⟨sa, cap, h1, h2⟩ := h.sl j hj
  exact ⟨sa, cap, hc h1, h2⟩
 ·exact (World.frozen?_of_block (w := A) (a := ⟨cb j, o, none⟩) (za9 hg hr (h.row j hj hne 0 (List.length_pos_iff.2 hne)).1)).trans (h.fzr j hj hne o)
theorem Ext.others {W W' : World} (x : Ext W W') : KeepsOthers W W' := ⟨x.bl.size, fun k o hk _ => (x.bl.block k (Array.getElem?_eq_some_iff.1 hk).1).trans hk⟩
theorem Ext.kc {W W' : World} (x : Ext W W') (b : Nat) : KC b W W' := ⟨x.bl.size, fun k o _ hk _ => (x.bl.block k (Array.getElem?_eq_some_iff.1 hk).1).trans hk⟩
theorem HOwn.far {w : World} {lo g b o : Nat} {cb : Nat → Nat} {ss : List St} {v : Value} (h : HOwn w lo g cb ss) (hg : b ≠ g) (hc : ∀ j, j < ss.length → (ss.getD j s0).2 ≠ [] → b ≠ cb j) : HOwn (w.setCell ⟨b, o, none⟩ v) lo g cb ss := by
 have hk : ∀ {c q x}, b ≠ c → w.cell? ⟨c, q, none⟩ = some x → (w.setCell ⟨b, o, none⟩ v).cell? ⟨c, q, none⟩ = some x := fun {c q x} hne hx => (World.cell?_of_block (w := w) (a := ⟨c, q, none⟩) (Below.heap_setCell _ _ _ _ (Ne.symm hne))).trans hx
 refine ⟨fun j hj => hk hg (h.dt j hj), fun j hj => ?_, fun j hj hne => fun i hi => ⟨hk (hc j hj hne) (h.row j hj hne i hi).1, hk (hc j hj hne) (h.row j hj hne i hi).2.1, hk (hc j hj hne) (h.row j hj hne i hi).2.2⟩, fun q => by rw [World.frozen?_setCell]; exact h.fz q, fun j hj hne q => by rw [World.frozen?_setCell]; exact h.fzr j hj hne q, h.lo_g, by have := h.g_lt; simpa [World.setCell] using this, h.g_cb, h.inc⟩
 obtain ⟨sa, cap, h1, h2⟩ := h.sl j hj
 exact ⟨sa, cap, hk hg h1, h2⟩
theorem ze23 {w : World} {b o c q : Nat} {x v : Value} (h : w.cell? ⟨b, o, none⟩ = some x) (hne : b ≠ c := by omega) : (w.setCell ⟨c, q, none⟩ v).cell? ⟨b, o, none⟩ = some x := (World.cell?_of_block (w := w) (a := ⟨b, o, none⟩) (Below.heap_setCell _ _ _ _ hne)).trans h
structure HwI (W4 w2 : World) (g : Nat) (cb : Nat → Nat) (ss : List St) (m : Nat) (X : List Nat) (sb : Option Addr) (cl cp : Nat) (L : List Int) (W : World) : Prop where
 own : HOwn W W4.heap.size g cb (putS ss m L X L.length)
 d0 : W.cell? ⟨w2.heap.size, 0, none⟩ = some (σ (some ⟨g, 0, none⟩) ss.length ss.length)
 d1 : W.cell? ⟨w2.heap.size, 1, none⟩ = some (σ sb cl cp)
 d2 : W.cell? ⟨w2.heap.size, 2, none⟩ = some (O ι 8)
 d3 : W.cell? ⟨w2.heap.size, 3, none⟩ = some (O ι 8)
 ni : W.cell? ⟨w2.heap.size + 1, 0, none⟩ = some (O ι L.length)
 nf : W.frozen? ⟨w2.heap.size + 1, 0, none⟩ = false
end
section
open Go.RowKit FL
def fbef (a b : Nat) : Bool := !nanD a && (nanD b || (flt a b || (feq a b && (mzB a && !mzB b))))
def cbef (fa ga fb gb : Nat) : Bool := fbef fa fb || (!fbef fb fa && fbef ga gb)
def befB (dt ia : Int) (fa ga : Nat) (ib : Int) (fb gb : Nat) : Bool :=
 validB dt ia fa ga && (validB dt ib fb gb && (if dt ≤ 6 then decide (ia < ib) else if dt ≤ 8 then fbef fa fb else cbef fa ga fb gb))
end
section
structure Prm (a b : Nat) (r : Nat → Nat) : Prop where
 inn : ∀ i, a ≤ i → i < b → a ≤ r i ∧ r i < b
 out : ∀ i, (i < a ∨ b ≤ i) → r i = i
 inj : ∀ i j, r i = r j → i = j
 sur : ∀ j, ∃ i, r i = j
def swR (a b n i : Nat) : Nat := if a ≤ i ∧ i < a + n then i - a + b else if b ≤ i ∧ i < b + n then i - b + a else i
def sw1 (p q i : Nat) : Nat := if i = p then q else if i = q then p else i
def rot (a m b i : Nat) : Nat := if a ≤ i ∧ i < b then (if i < a + (b - m) then i - a + m else i - (b - m)) else i
section
variable {α : Type}
structure Wk (S : α → Prop) (lt : α → α → Bool) : Prop where
 asym : ∀ x y, S x → S y → lt x y = true → lt y x = false
 neg : ∀ x y z, S x → S y → S z → lt x y = false → lt y z = false → lt x z = false
def lts (lt : α → α → Bool) (x y : α × Nat) : Prop := lt x.1 y.1 = true ∨ (lt y.1 x.1 = false ∧ x.2 < y.2)
variable {S : α → Prop} {lt : α → α → Bool}
def Srt (lt : α → α → Bool) (a b : Nat) (e : Nat → α × Nat) : Prop := ∀ i j, a ≤ i → i < j → j < b → lts lt (e i) (e j)
structure Mg (S : α → Prop) (lt : α → α → Bool) (a m b : Nat) (e : Nat → α × Nat) : Prop where
 l : Srt lt a m e
 r : Srt lt m b e
 num : ∀ i j, a ≤ i → i < m → m ≤ j → j < b → (e i).2 < (e j).2
 am : a ≤ m
 mb : m ≤ b
 s : ∀ i, a ≤ i → i < b → S (e i).1
def Mgd (lt : α → α → Bool) (a b : Nat) (e : Nat → α × Nat) (r : Nat → Nat) : Prop := Prm a b r ∧ Srt lt a b (fun i => e (r i))
structure Sp (lt : α → α → Bool) (e : Nat → α × Nat) (s0 r0 p s r : Nat) : Prop where
 lo : s0 ≤ s
 sr : s ≤ r
 hi : r ≤ r0
 bl : ∀ c, s0 ≤ c → c < s → lts lt (e c) (e (p - c))
 ab : ∀ c, r ≤ c → c < r0 → lts lt (e (p - c)) (e c)
structure Pt (lt : α → α → Bool) (a m b s t mid : Nat) (e : Nat → α × Nat) : Prop where
 aS : a ≤ s
 sm : s ≤ m
 mt : m ≤ t
 tb : t ≤ b
 md : s + (t - m) = mid
 xy : ∀ i j, a ≤ i → i < s → t ≤ j → j < b → lts lt (e i) (e j)
 yx : ∀ i j, m ≤ i → i < t → s ≤ j → j < m → lts lt (e i) (e j)
end
end
section
open Go.RowKit
section
variable {P : Program} {ops : Array Oper} {Q : Exit → Act → World → Prop} {md : Region.Mode} {S T : World → Prop} {late : List Nat}
def early (late : List Nat) (l : Array Bool) : Bool := late.all fun k => !(l.getD k true)
theorem zl5 {l : Array Bool} {j : Nat} (h : late.contains j = false) : early late (l.setIfInBounds j true) = early late l := by
 unfold early
 rw [Bool.eq_iff_iff, List.all_eq_true, List.all_eq_true]
 have hne : ∀ k ∈ late, j ≠ k := fun k hk e => by
  subst e
  have : late.contains j = true := by simpa using hk
  rw [h] at this; cases this
 exact ⟨fun q k hk => by have := q k hk; rwa [getD_set_ne true (hne k hk)] at this, fun q k hk => by rw [getD_set_ne true (hne k hk)]; exact q k hk⟩
def wpAnyV (P : Program) (md : Region.Mode) (ops : Array Oper) (Q : Exit → Act → World → Prop) (S T : World → Prop) (late : List Nat) : Nat → Array Bool → Act → World → Prop
 | 0, l, a, w => Region.ready md ops l = [] ∧ Q .normal a w
 | f + 1, l, a, w => (Region.ready md ops l = [] → Q .normal a w) ∧
  ∀ i ∈ Region.ready md ops l, wpOp P ops Q i (fun a' w' => (T w' ∧ (early late (l.setIfInBounds i true) = true → S w')) ∧ wpAnyV P md ops Q S T late f (l.setIfInBounds i true) a' w') a w
theorem zb8 : ∀ (f : Nat) (l : Array Bool) (a : Act) (w : World), wpAnyV P md ops Q S T late f l a w → wpAny P md ops Q f l a w
 | 0, _, _, _, h => h
 | f + 1, _, _, _, h => ⟨h.1, fun i hi => wpOp_mono (fun a' w' h' => zb8 f _ a' w' h'.2) (h.2 i hi)⟩
theorem zc8 {i : Nat} {oi : Oper} {v : Value} {R : World → Prop} (hi : ops[i]? = some oi) (hs : Region.noSelect ops = true) (hil : late.contains i = false)
  (hQ : ∀ c a w, Q (.panic c) (a.put oi.dst v) w → Q (.panic c) a w) (C : Array Bool → Prop)
  (hC : ∀ l j oj, C l → ops[j]? = some oj → (∀ e ∈ oj.after, Region.binds md e = true → e.on ≠ i) → C (l.setIfInBounds j true))
  (hR : ∀ l w, C l → T w → (early late l = true → S w) → R w) (f : Nat) : ∀ (l : Array Bool) (a : Act) (w : World), C l →
   (∀ j oj, ops[j]? = some oj → j ≠ i → l.getD j true = false → (∀ e ∈ oj.after, Region.binds md e = true → e.on ≠ i) → oi.apart ops oj = true) →
   i ∈ Region.ready md ops l → YieldsIf P ops R oi v a → T w → (early late l = true → S w) →
   wpAnyV P md ops Q S T late f (l.setIfInBounds i true) (a.put oi.dst v) w → wpAnyV P md ops Q S T late (f + 1) l a w := by
 induction f with
 | zero =>
  intro l a w hc _ hr hy hT hS H
  refine ⟨fun h => (by rw [h] at hr; cases hr), fun j hj => ?_⟩
  by_cases e : j = i
  ·subst e
   exact hy.wpOp hi (hR l w hc hT hS) ⟨⟨hT, fun q => hS (by rw [zl5 hil] at q; exact q)⟩, H⟩
  ·have h0 := ready_mono hj e
   rw [H.1] at h0
   cases h0
 | succ f ih =>
  intro l a w hc hfr hr hy hT hS H
  refine ⟨fun h => (by rw [h] at hr; cases hr), fun j hj => ?_⟩
  by_cases e : j = i
  ·subst e
   exact hy.wpOp hi (hR l w hc hT hS) ⟨⟨hT, fun q => hS (by rw [zl5 hil] at q; exact q)⟩, H⟩
  obtain ⟨hju, oj, hoj, hal⟩ := mem_ready.1 hj
  have hiu := (mem_ready.1 hr).1
  have hno : ∀ x ∈ oj.after, Region.binds md x = true → x.on ≠ i := fun x hx hb q => by
   have h1 := hal x hx hb
   rw [q] at h1
   rcases Nat.lt_or_ge i l.size with h' | h'
   ·simp [h'] at hiu h1
    rw [hiu] at h1; cases h1
   ·simp [Array.getElem?_eq_none h'] at h1
  have step := wpOp_putIf hoj (hfr j oj hoj e hju hno) (fun cs b => Region.noSelect_spec hs i oi cs b hi) (fun cs b => Region.noSelect_spec hs j oj cs b hoj) hQ hy (H.2 j (ready_mono hj e))
  have hE : early late ((l.setIfInBounds i true).setIfInBounds j true) = early late (l.setIfInBounds j true) := by
   rw [Array.setIfInBounds_comm _ _ (Ne.symm e), zl5 hil]
  refine wpOp_mono (fun a' w' h3 => ?_) step
  obtain ⟨h4, ⟨h5, h6⟩, h7⟩ := h3
  rw [hE] at h6
  refine ⟨⟨h5, h6⟩, ih (l.setIfInBounds j true) a' w' (hC l j oj hc hoj hno) (fun k ok hk hki hun hn => hfr k ok hk hki ?_ hn) (ready_mono hr (Ne.symm e)) h4 h5 h6 ?_⟩
  ·by_cases q : j = k
   ·subst q; exact hju
   ·rw [getD_set_ne true q] at hun; exact hun
  ·rw [Array.setIfInBounds_comm _ _ e]
   exact h7
theorem zj {i : Nat} {oi : Oper} {v : Value} (hi : ops[i]? = some oi) (hs : Region.noSelect ops = true) (hil : late.contains i = false)
  (hQ : ∀ c a w, Q (.panic c) (a.put oi.dst v) w → Q (.panic c) a w) (f : Nat) {l : Array Bool} {a : Act} {w : World}
  (hf : Region.free md ops l i = true) (hr : (Region.ready md ops l).contains i = true) (hy : YieldsIf P ops T oi v a) (hT : T w) (hS : early late l = true → S w)
  (h : wpAnyV P md ops Q S T late f (l.setIfInBounds i true) (a.put oi.dst v) w) : wpAnyV P md ops Q S T late (f + 1) l a w :=
 zc8 hi hs hil hQ (fun _ => True) (fun _ _ _ _ _ _ => trivial) (fun _ _ _ h _ => h) f l a w trivial (Region.free_spec hi hf) (by simpa using hr) hy hT hS h
theorem zr {i : Nat} {oi : Oper} {v : Value} (hi : ops[i]? = some oi) (hs : Region.noSelect ops = true) (hil : late.contains i = false) (hl : (late.all (waitsFor md ops i)) = true)
  (hQ : ∀ c a w, Q (.panic c) (a.put oi.dst v) w → Q (.panic c) a w) (f : Nat) {l : Array Bool} {a : Act} {w : World} (he : early late l = true)
  (hf : Region.free md ops l i = true) (hr : (Region.ready md ops l).contains i = true) (hy : YieldsIf P ops S oi v a) (hT : T w) (hS : S w)
  (h : wpAnyV P md ops Q S T late f (l.setIfInBounds i true) (a.put oi.dst v) w) : wpAnyV P md ops Q S T late (f + 1) l a w :=
 zc8 hi hs hil hQ (fun l => early late l = true) (fun l j oj hc hoj hno => by
   have hnl : late.contains j = false := by
    cases hc : late.contains j with
    | false => rfl
    | true =>
     have h2 := List.all_eq_true.1 hl j (by simpa using hc)
     unfold waitsFor at h2
     rw [hoj] at h2
     simp only [Array.any_eq_true', Bool.and_eq_true, beq_iff_eq] at h2
     obtain ⟨x, hx, hb, ho⟩ := h2
     exact absurd ho (hno x hx hb)
   rw [zl5 hnl]; exact hc) (fun _ _ hc _ h => h hc) f l a w he (Region.free_spec hi hf) (by simpa using hr) hy hT (fun _ => hS) h
theorem zi {i : Nat} {o : Oper} {f : Nat} {l : Array Bool} {a : Act} {w : World} (hr : Region.ready md ops l = [i]) (ho : ops[i]? = some o)
  (h : ∀ K' : Act → World → Prop, Shut (∀ a w, T w → (early late (l.setIfInBounds i true) = true → S w) → wpAnyV P md ops Q S T late f (l.setIfInBounds i true) a w → K' a w) → if Region.wanted o (yielded ops a.tmps) = true then Oper.wp P o a w K' Q else K' (a.put o.dst undef) w) :
  wpAnyV P md ops Q S T late (f + 1) l a w := by
 refine ⟨fun h0 => (by rw [hr] at h0; cases h0), fun j hj => ?_⟩
 rw [hr] at hj
 obtain rfl : j = i := by simpa using hj
 exact wpOp_step ho (fun K' hK => h K' (fun a w h1 h2 h3 => hK a w ⟨⟨h1, h2⟩, h3⟩))
theorem zd1 {l : Array Bool} {a : Act} {w : World} (hr : Region.ready md ops l = []) (h : Q .normal a w) : ∀ f, wpAnyV P md ops Q S T late f l a w
 | 0 => ⟨hr, h⟩
 | _ + 1 => ⟨fun _ => h, by rw [hr]; simp⟩
theorem zj9 {id : Nat} {a : Act} {w : World} (hm : P.follows .mixedOrders = true)
  (h : wpAnyV P .any ops (NQ Q) S T late ops.size (Array.replicate ops.size false) a w.drew) : (Code.region id ops true).wp P Q a w :=
 Code.wp_mono (fun e a w h => by obtain ⟨rfl, h⟩ := h; exact h) (wp_region_any hm (zb8 _ _ _ _ h))
end
end
section
open Go.RowKit
section
variable {P : Program} {ops : Array Oper} {Q : Exit → Act → World → Prop} {md : Region.Mode} {S T : World → Prop} {late : List Nat}
end
end
section
open Go.ChangeShapes Go.RowKit FL
def CF (W : World) (b off n : Nat) (f : Nat → C3) : Prop := ∀ j, j < n → W.cell? ⟨b, off + j * 3, none⟩ = some (O ι (f j).1) ∧ W.cell? ⟨b, off + j * 3 + 1, none⟩ = some (.float .f64 (f j).2.1) ∧ W.cell? ⟨b, off + j * 3 + 2, none⟩ = some (.float .f64 (f j).2.2)
structure MRg (b off n : Nat) (w w' : World) : Prop where
 m : Mut b w w'
 c : ∀ o x, (o < off ∨ off + n * 3 ≤ o) → w.cell? ⟨b, o, none⟩ = some x → w'.cell? ⟨b, o, none⟩ = some x
def st3 (W : World) (b o : Nat) (c : C3) : World := ((W.setCell ⟨b, o, none⟩ (O ι c.1)).setCell ⟨b, o + 1, none⟩ (.float .f64 c.2.1)).setCell ⟨b, o + 2, none⟩ (.float .f64 c.2.2)

end
section
open Go.RowKit
section
variable {P : Program} {ops : Array Oper} {Q : Exit → Act → World → Prop} {md : Region.Mode} {S : World → Prop} {late : List Nat}
theorem zx6 {rs : List Nat} {f : Nat} {l : Array Bool} {a : Act} {w : World} (hr : Region.ready md ops l = rs) (hne : rs ≠ [])
  (h : ∀ i ∈ rs, ∃ o, ops[i]? = some o ∧ ∀ K' : Act → World → Prop, Shut (∀ a w, (late.contains i = false → S w) → wpAnyU P md ops Q S late f (l.setIfInBounds i true) a w → K' a w) → if Region.wanted o (yielded ops a.tmps) = true then Oper.wp P o a w K' Q else K' (a.put o.dst undef) w) :
  wpAnyU P md ops Q S late (f + 1) l a w := by
 refine ⟨fun h0 => absurd (hr ▸ h0) hne, fun j hj => ?_⟩
 rw [hr] at hj
 obtain ⟨o, ho, hK⟩ := h j hj
 exact wpOp_step ho (fun K' hK' => hK K' (fun a w h1 h2 => hK' a w ⟨h1, h2⟩))
theorem zz9 {i d : Nat} {oi : Oper} {v : Value} (hi : ops[i]? = some oi) (hd : oi.dst = some d) (hs : Region.noSelect ops = true) (hl : (late.all (waitsFor md ops i)) = true)
  (hQ : ∀ c a w, Q (.panic c) (a.put oi.dst v) w → Q (.panic c) a w) (f : Nat) {l : Array Bool} {a : Act} {w : World}
  (h1 : Region.free md ops l i = true) (h2 : (Region.ready md ops l).contains i = true) (h3 : YieldsIf P ops S oi v a) (h4 : S w)
  (h : wpAnyU P md ops Q S late f (l.setIfInBounds i true) (a.put (some d) v) w) : wpAnyU P md ops Q S late (f + 1) l a w :=
 zd hi hs hl hQ f h1 h2 h3 h4 (by rw [hd]; exact h)
theorem zb23 (i d : Nat) (v : Value) {oi : Oper} {f : Nat} {l : Array Bool} {a : Act} {w : World} (hi : ops[i]? = some oi) (h3 : YieldsIf P ops S oi v a) (h4 : S w)
  (h : wpAnyU P md ops Q S late f (l.setIfInBounds i true) (a.put (some d) v) w) (hd : oi.dst = some d := by rfl) (hs : Region.noSelect ops = true := by kernel_rfl) (hl : (late.all (waitsFor md ops i)) = true := by kernel_rfl)
  (hQ : ∀ c a w, Q (.panic c) (a.put oi.dst v) w → Q (.panic c) a w := by exact fun _ _ _ h => by cases h.1) (h1 : Region.free md ops l i = true := by kernel_rfl) (h2 : (Region.ready md ops l).contains i = true := by kernel_rfl) : wpAnyU P md ops Q S late (f + 1) l a w :=
 zz9 hi hd hs hl hQ f h1 h2 h3 h4 h
theorem zl13 {id : Nat} {a : Act} {w : World} (R : Act → Act → World → Prop) (hm : P.follows .mixedOrders = true) (h2 : ∀ a' w', R a a' w' → Q .normal a' w')
  (h : wpAnyU P .any ops (fun e a' w' => e = .normal ∧ R a a' w') S late ops.size (Array.replicate ops.size false) a w.drew) : (Code.region id ops true).wp P Q a w :=
 Code.wp_mono (fun e a' w' h => by obtain ⟨rfl, h⟩ := h; exact h2 _ _ h) (wp_region_any hm (zn5 _ _ _ _ h))
end
def stL (w : World) (b : Nat) : Nat → List Value → World
 | _, [] => w
 | o, v :: vs => stL (w.setCell ⟨b, o, none⟩ v) b (o + 1) vs
end
section
open Go.ChangeShapes Go.RowKit FL
def cellV (x : C3) : Value := γ #[O ι x.1, .float .f64 x.2.1, .float .f64 x.2.2]
structure CmpK (gf : Nat) (cb : Array Value) (b off n : Nat) (w : World) (Sx : C3 → Prop) (lt : C3 → C3 → Bool) : Prop where
 call : ∀ W, MRg b off n w W → ∀ x y, Sx x → Sx y → Calls Tryz.prog gf (#[cellV x, cellV y] ++ cb) W fun e W' => (∃ c : Int, e = .returned (O ι c) ∧ decide (c < 0) = lt x y) ∧ Ext W W'
def SpC (a m bb mid s0 r0 : Nat) : Prop := (mid < m ∧ s0 = mid + m - bb ∧ r0 = mid) ∨ (m ≤ mid ∧ s0 = a ∧ r0 = m)
def SmOk (lt : C3 → C3 → Bool) (b off n a bb : Nat) (e : Nat → C3 × Nat) (w : World) (r : Ending) (w' : World) : Prop := r = .returned (.tuple #[]) ∧ ∃ r, Mgd lt a bb e r ∧ CF w' b off n (fun i => (e (r i)).1) ∧ MRg b off n w w'
end
section
section
variable {α : Type} {S : α → Prop} {lt : α → α → Bool}
def tag (f : Nat → α) (i : Nat) : α × Nat := (f i, i)
def Bk (lt : α → α → Bool) (f : Nat → α) (r : Nat → Nat) (x y : Nat) : Prop := Srt lt x y (fun i => tag f (r i)) ∧ ∀ i, x ≤ i → i < y → x ≤ r i ∧ r i < y
def Bu (bs c : Nat) (P : Nat → Nat → Prop) : Prop := ∀ k, k < c → P (k * bs) (k * bs + bs)
def Bs (bs lo n : Nat) (P : Nat → Nat → Prop) : Prop := ∀ k, lo + k * bs < n → P (lo + k * bs) (min (lo + k * bs + bs) n)
end
end
section
open Go.ChangeShapes Go.RowKit FL
def StOk (lt : C3 → C3 → Bool) (b off n : Nat) (f : Nat → C3) (w : World) (r : Ending) (w' : World) : Prop := r = .returned (.tuple #[]) ∧ ∃ r, Prm 0 n r ∧ Srt lt 0 n (fun i => tag f (r i)) ∧ CF w' b off n (fun i => f (r i)) ∧ MRg b off n w w'

def fkey (a : Nat) : Int := if nanD a = true then 100000000000000000000 else 2 * keyD a + (if mzB a = true then 0 else 1)
def OkC (dt : Int) (x : C3) : Prop := I64 x.1 ∧ B64 x.2.1 ∧ B64 x.2.2 ∧ validB dt x.1 x.2.1 x.2.2 = true
def befC (dt : Int) (x y : C3) : Bool := befB dt x.1 x.2.1 x.2.2 y.1 y.2.1 y.2.2
def key1 (dt : Int) (x : C3) : Int := if dt ≤ 6 then x.1 else fkey x.2.1
def key2 (dt : Int) (x : C3) : Int := if dt ≤ 8 then 0 else fkey x.2.2
def cnt (p : Nat → Bool) : Nat → Nat
 | 0 => 0
 | m + 1 => cnt p m + (if p m = true then 1 else 0)
def blt (f : Nat → C3) (dt : Int) (j i : Nat) : Bool := befC dt (f j) (f i) || (decide (j < i) && !befC dt (f i) (f j))
def rkN (f : Nat → C3) (dt : Int) (n i : Nat) : Nat := cnt (fun j => blt f dt j i) n
def ordL (f : Nat → C3) (dt : Int) (n : Nat) : Nat → List Int
 | 0 => List.replicate n 0
 | i + 1 => (ordL f dt n i).set (rkN f dt n i) i
def kqL (xs : List Int) (k : Int) : Nat → Int
 | 0 => k
 | c + 1 => kqL xs k c / xs.getD (xs.length - 1 - c) 0
def ixL (xs : List Int) (k : Int) : Nat → List Int
 | 0 => List.replicate xs.length 0
 | c + 1 => (ixL xs k c).set (xs.length - 1 - c) (kqL xs k c % xs.getD (xs.length - 1 - c) 0)
def nuL (xs ix : List Int) : Nat → Int
 | 0 => 0
 | c + 1 => nuL xs ix c * xs.getD c 0 + ix.getD c 0
end
section
def idxL : List Int → Nat → List Int
 | [], _ => []
 | n :: ns, k => ((k / plen ns % n.toNat : Nat) : Int) :: idxL ns k
def dotL : List Int → List Int → Int
 | s :: ss, i :: is => i * s + dotL ss is
 | _, _ => 0
def InX : List Int → List Int → Prop
 | [], [] => True
 | n :: ns, i :: is => (0 ≤ i ∧ i < n) ∧ InX ns is
 | _, _ => False
def numL : List Int → List Int → Nat
 | _ :: ns, i :: is => i.toNat * plen ns + numL ns is
 | _, _ => 0
def kap (ax : Nat) (xs : List Int) (p i : Nat) : Nat := numL xs ((idxL (xs.eraseIdx ax) p).insertIdx ax (i : Int))
end
section
open Go.ChangeShapes Go.RowKit FL


def C3.Sm (c d : C3) : Prop := c.1 = d.1 ∧ sameB c.2.1 d.2.1 = true ∧ sameB c.2.2 d.2.2 = true
def CSm (cs ds : List C3) : Prop := cs.length = ds.length ∧ ∀ j, j < cs.length → C3.Sm (cs.getD j k0) (ds.getD j k0)
def SSm (ss ts : List St) : Prop := ss.length = ts.length ∧ ∀ j, j < ss.length → (ss.getD j s0).1 = (ts.getD j s0).1 ∧ CSm (ss.getD j s0).2 (ts.getD j s0).2
def atN (xs : List Int) (ax q i : Nat) : Nat := numL xs ((idxL xs q).set ax (i : Int))
def putC (cs : List C3) (L : List Int) (X : List C3) : Nat → List C3
 | 0 => cs
 | j + 1 => (putC cs L X j).set (L.getD j 0).toNat (X.getD j k0)
theorem zw4 (cs : List C3) (L : List Int) (X : List C3) (j : Nat) : (putC cs L X j).length = cs.length := by
 induction j with
 | zero => rfl
 | succ j ih => rw [putC, List.length_set, ih]
theorem zj8 (cs : List C3) {L L' : List Int} {X X' : List C3} : ∀ {j : Nat}, (∀ i, i < j → L.getD i 0 = L'.getD i 0) → (∀ i, i < j → X.getD i k0 = X'.getD i k0) → putC cs L X j = putC cs L' X' j
 | 0, _, _ => rfl
 | j + 1, h, k => by rw [putC, putC, zj8 cs (fun i hi => h i (by omega)) (fun i hi => k i (by omega)), h j (by omega), k j (by omega)]
theorem zk10 (cs : List C3) (L : List Int) (X : List C3) (p : Nat) : ∀ n, (∀ j, j < n → (L.getD j 0).toNat ≠ p) → (putC cs L X n).getD p k0 = cs.getD p k0
 | 0, _ => rfl
 | n + 1, h => by
  rw [putC, ze8, if_neg (fun q => h n (by omega) q.1), zk10 cs L X p n (fun j hj => h j (by omega))]
theorem zp6 (cs : List C3) (L : List Int) (X : List C3) : ∀ n, (∀ i j, i < n → j < n → (L.getD i 0).toNat = (L.getD j 0).toNat → X.getD i k0 = X.getD j k0) → ∀ j, j < n → (L.getD j 0).toNat < cs.length → (putC cs L X n).getD (L.getD j 0).toNat k0 = X.getD j k0
 | 0, _, j, hj, _ => absurd hj (by omega)
 | n + 1, h, j, hj, hc => by
  rw [putC, ze8, zw4]
  by_cases e : (L.getD n 0).toNat = (L.getD j 0).toNat
  ·rw [if_pos ⟨e, hc⟩]
   exact h n j (by omega) hj e
  ·rw [if_neg (fun q => e q.1)]
   have : j ≠ n := fun z => e (by rw [z])
   exact zp6 cs L X n (fun i j hi hj => h i j (by omega) (by omega)) j (by omega) hc
theorem zq9 {a b : List C3} (hl : a.length = b.length) (h : ∀ i, i < a.length → a.getD i k0 = b.getD i k0) : a = b := by
 apply List.ext_getElem hl
 intro i h1 h2
 have := h i h1
 rw [List.getD_eq_getElem?_getD, List.getD_eq_getElem?_getD, List.getElem?_eq_getElem h1, List.getElem?_eq_getElem h2] at this
 exact this
def putT (ss : List St) (m : Nat) (L : List Int) (X : List C3) (j : Nat) : List St := ss.set m ((ss.getD m s0).1, putC (ss.getD m s0).2 L X j)
theorem zp (ss : List St) (m : Nat) (L : List Int) (X : List C3) (j : Nat) : (putT ss m L X j).length = ss.length := by simp [putT]
theorem zb1 (ss : List St) (m : Nat) (L : List Int) (X : List C3) (j i : Nat) : ((putT ss m L X j).getD i s0).1 = (ss.getD i s0).1 ∧ ((putT ss m L X j).getD i s0).2.length = (ss.getD i s0).2.length ∧ (i ≠ m → (putT ss m L X j).getD i s0 = ss.getD i s0) := by
 unfold putT
 rw [ze8]
 by_cases h : m = i ∧ i < ss.length
 ·rw [if_pos h, ← h.1]
  exact ⟨rfl, zw4 .., fun q => absurd rfl q⟩
 ·rw [if_neg h]
  exact ⟨rfl, rfl, fun _ => rfl⟩
theorem za16 (ss : List St) (m : Nat) (L : List Int) (X : List C3) (hm : m < ss.length) : putT ss m L X 0 = ss := by
 unfold putT
 show ss.set m ((ss.getD m s0).1, (ss.getD m s0).2) = ss
 rw [List.getD_eq_getElem?_getD, List.getElem?_eq_getElem hm]
 exact List.set_getElem_self hm
def laneC (x : List C3) (xs : List Int) (ax q : Nat) : Nat → C3 := fun i => x.getD (atN xs ax q i) k0
def ordQ (dt : Int) (x : List C3) (xs : List Int) (ax q : Nat) : Int := (ordL (laneC x xs ax q) dt (xs.getD ax 0).toNat (xs.getD ax 0).toNat).getD ((idxL xs q).getD ax 0).toNat 0
def srtQ (dt : Int) (x : List C3) (xs : List Int) (ax q : Nat) : C3 := laneC x xs ax q (ordQ dt x xs ax q).toNat
def setC (w : World) (b o : Nat) (c : C3) : World := ((w.setCell ⟨b, o, none⟩ (O ι c.1)).setCell ⟨b, o + 1, none⟩ (.float .f64 c.2.1)).setCell ⟨b, o + 2, none⟩ (.float .f64 c.2.2)
theorem zq14 (w : World) (b o : Nat) (x : C3) (c : Nat) (h : c ≠ b) : (setC w b o x).heap[c]? = w.heap[c]? := (Below.heap_setCell _ _ _ _ h).trans ((Below.heap_setCell _ _ _ _ h).trans (Below.heap_setCell _ _ _ _ h))
theorem za1 {w : World} {b o c q : Nat} {x : C3} {v : Value} (h : c ≠ b) (hc : w.cell? ⟨c, q, none⟩ = some v) : (setC w b o x).cell? ⟨c, q, none⟩ = some v := (World.cell?_of_block (w := w) (a := ⟨c, q, none⟩) (zq14 w b o x c h)).trans hc
theorem zo13 {w : World} {g n n' b L cp k : Nat} {fr to : Int} {xi : Int} {xf xg : Nat} {y : C3} {y0 y1 y2 : Value} (hk : k < L) (hcv : ∀ W, Calls Tryz.prog 69 #[O ι fr, O ι to, γ #[O ι xi, .float .f64 xf, .float .f64 xg]] W fun e W' => e = .returned (cellV y) ∧ Ext W W') (c0 : w.cell? ⟨b, k * 3, none⟩ = some y0) (c1 : w.cell? ⟨b, k * 3 + 1, none⟩ = some y1) (c2 : w.cell? ⟨b, k * 3 + 2, none⟩ = some y2) (hf : ∀ o, w.frozen? ⟨b, o, none⟩ = false) :
  Calls Tryz.prog 32 #[γ #[σ (some ⟨g, 0, none⟩) n n', σ (some ⟨b, 0, none⟩) L cp, O ι fr, O ι to], O ι k, γ #[O ι xi, .float .f64 xf, .float .f64 xg]] w fun e w' => e = .returned (.tuple #[]) ∧ ∃ w1, Ext w w1 ∧ w' = setC w1 b (k * 3) y := by
 obtain ⟨y0', y1', y2'⟩ := y
 unfold cellV at hcv
 have hbl := zl c0
 have xe : Ext w ((w.alloc (χ #[σ (some ⟨g, 0, none⟩) n n', σ (some ⟨b, 0, none⟩) L cp, O ι fr, O ι to] 79)).alloc (χ #[O ι xi, .float .f64 xf, .float .f64 xg] 47)) := ((Ext.refl w).alloc _ _).alloc _ _
 have xa : Ext (w.alloc (χ #[σ (some ⟨g, 0, none⟩) n n', σ (some ⟨b, 0, none⟩) L cp, O ι fr, O ι to] 79)) ((w.alloc (χ #[σ (some ⟨g, 0, none⟩) n n', σ (some ⟨b, 0, none⟩) L cp, O ι fr, O ι to] 79)).alloc (χ #[O ι xi, .float .f64 xf, .float .f64 xg] 47)) := (Ext.refl _).alloc _ _
 have n0 := fun j => zg w #[σ (some ⟨g, 0, none⟩) n n', σ (some ⟨b, 0, none⟩) L cp, O ι fr, O ι to] 79 w.heap.size rfl j
 have n1 := fun j => zg (w.alloc (χ #[σ (some ⟨g, 0, none⟩) n n', σ (some ⟨b, 0, none⟩) L cp, O ι fr, O ι to] 79)) #[O ι xi, .float .f64 xf, .float .f64 xg] 47 (w.heap.size + 1) (by simp) j
 have k1 := xa.box (n0 1)
 have k2 := xa.box (n0 2)
 have k3 := xa.box (n0 3)
 have m0 := n1 0
 have m1 := n1 1
 have m2 := n1 2
 simp only [List.getElem?_toArray, List.getElem?_cons_zero, List.getElem?_cons_succ] at k1 k2 k3 m0 m1 m2
 have X0 := hide xe
 have c0 := xe.box c0
 have c1 := xe.box c1
 have c2 := xe.box c2
 have hk0 : (0 : Int) ≤ (k : Int) := Int.natCast_nonneg _
 have hk1 : (k : Int) < (L : Int) := by omega
 clear n0 n1 xe xa
 go_enter Tryz.func32, Tryz.ntmps32
 go_wp2_with fail
 generalize ((w.alloc (χ #[σ (some ⟨g, 0, none⟩) n n', σ (some ⟨b, 0, none⟩) L cp, O ι fr, O ι to] 79)).alloc (χ #[O ι xi, .float .f64 xf, .float .f64 xg] 47)) = W1 at *
 have SA : Hid ((fun w' : World => w'.cell? ⟨w.heap.size, 1, none⟩ = some (σ (some ⟨b, 0, none⟩) L cp) ∧ w'.cell? ⟨w.heap.size, 2, none⟩ = some (O ι fr) ∧ w'.cell? ⟨w.heap.size, 3, none⟩ = some (O ι to) ∧ w'.cell? ⟨w.heap.size + 1, 0, none⟩ = some (O ι xi) ∧ w'.cell? ⟨w.heap.size + 1, 1, none⟩ = some (.float .f64 xf) ∧ w'.cell? ⟨w.heap.size + 1, 2, none⟩ = some (.float .f64 xg)) W1.drew) := ⟨k1, k2, k3, m0, m1, m2⟩
 have HCV := hide (hcv W1.drew)
 go_region_held3 (fun w' : World => w'.cell? ⟨w.heap.size, 1, none⟩ = some (σ (some ⟨b, 0, none⟩) L cp) ∧ w'.cell? ⟨w.heap.size, 2, none⟩ = some (O ι fr) ∧ w'.cell? ⟨w.heap.size, 3, none⟩ = some (O ι to) ∧ w'.cell? ⟨w.heap.size + 1, 0, none⟩ = some (O ι xi) ∧ w'.cell? ⟨w.heap.size + 1, 1, none⟩ = some (.float .f64 xf) ∧ w'.cell? ⟨w.heap.size + 1, 2, none⟩ = some (.float .f64 xg)) (first | with_reducible exact SA.out | exact SA.out | exact SB.out | exact SC.out) (first | (go_at_call 69; refine HCV.out.mono ?_; rintro e w2 ⟨rfl, x2⟩; have SB : Hid ((fun w' : World => w'.cell? ⟨w.heap.size, 1, none⟩ = some (σ (some ⟨b, 0, none⟩) L cp) ∧ w'.cell? ⟨w.heap.size, 2, none⟩ = some (O ι fr) ∧ w'.cell? ⟨w.heap.size, 3, none⟩ = some (O ι to) ∧ w'.cell? ⟨w.heap.size + 1, 0, none⟩ = some (O ι xi) ∧ w'.cell? ⟨w.heap.size + 1, 1, none⟩ = some (.float .f64 xf) ∧ w'.cell? ⟨w.heap.size + 1, 2, none⟩ = some (.float .f64 xg)) w2) := ⟨x2.box k1, x2.box k2, x2.box k3, x2.box m0, x2.box m1, x2.box m2⟩; have SC : Hid ((fun w' : World => w'.cell? ⟨w.heap.size, 1, none⟩ = some (σ (some ⟨b, 0, none⟩) L cp) ∧ w'.cell? ⟨w.heap.size, 2, none⟩ = some (O ι fr) ∧ w'.cell? ⟨w.heap.size, 3, none⟩ = some (O ι to) ∧ w'.cell? ⟨w.heap.size + 1, 0, none⟩ = some (O ι xi) ∧ w'.cell? ⟨w.heap.size + 1, 1, none⟩ = some (.float .f64 xf) ∧ w'.cell? ⟨w.heap.size + 1, 2, none⟩ = some (.float .f64 xg)) (setC w2 b (k * 3) (y0', y1', y2'))) := ⟨za1 (by omega) (x2.box k1), za1 (by omega) (x2.box k2), za1 (by omega) (x2.box k3), za1 (by omega) (x2.box m0), za1 (by omega) (x2.box m1), za1 (by omega) (x2.box m2)⟩; have d0 := x2.box c0; have d1 := x2.box c1; have d2 := x2.box c2; have fz := fun q => ((x2.fz _).trans (X0.out.fz _)).trans (hf q); have f0 := fz (k * 3); have f1 := fz (k * 3 + 1); have f2 := fz (k * 3 + 2); have X2 := hide (X0.out.drew.trans x2); clear x2 fz) | fail)
 go_wp2
 refine bodyPost_end (results_none rfl _ _ _) rfl ⟨rfl, ?_⟩
 exact ⟨w2, X2.out, rfl⟩
end
end Go.Proofs.YtjbbodfdpbcnhaaGreat
