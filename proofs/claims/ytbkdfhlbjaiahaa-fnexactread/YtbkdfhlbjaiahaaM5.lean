import Derived.Test.YtbkdfhlbjaiahaaM4
import Derived.Deep.AppendLies
import Derived.Deep.RegionHeld3
namespace Go.Proofs.Ytbkdfhlbjaiahaa
open Go.ChangeShapes Go.RowKit Go.Shelf
set_option linter.unusedSimpArgs false
set_option linter.unusedVariables false

attribute [local go_sem] Oper.semAt_some

theorem make_cells (W : World) (P : Int) (h0 : 0 ≤ P) (h1 : P ≤ 4096) : (Instr.makeSlice 46 (.int .i64 0) (.int .i64 P)).run Try.prog W = .ok (.slice (some ⟨W.heap.size, 0, none⟩) 0 P.toNat) (W.alloc (.cells (madeCells #[.int .i64 0, .float .f64 0, .float .f64 0] (P.toNat * 3)) 59)) := by
  obtain ⟨i0, hi0, hz0, hz1, hz2⟩ := info_parts info59
  have h := run_make (P := Try.prog) W 46 59 i0 (.agg #[.int .i64 0, .float .f64 0, .float .f64 0]) Try.underlying46 hi0 hz0 .i64 .i64 0 P (by omega) (by omega) (by rw [hz2]; omega) (by omega)
  rw [hz1] at h
  exact h

/-- The world where the loop begins. -/
structure RSt (W2 W0 : World) (b P : Nat) : Prop where
  size : W0.heap.size = b + 3
  box : Boxed W0 (b + 1) 46 (.slice (some ⟨b, 0, none⟩) 0 P)
  row : W0.ownsRow b 59 3 (.slice (some ⟨b, 0, none⟩) 0 P) 0 []
  bl : Below b W2 W0
theorem RSt.start {w2 : World} {b P : Nat} (hs : w2.heap.size = b) (hP : P ≤ 4096) (V : Array Value) :
    RSt w2 (((w2.alloc (.cells (madeCells #[.int .i64 0, .float .f64 0, .float .f64 0] (P * 3)) 59)).alloc (.cells #[.slice (some ⟨b, 0, none⟩) 0 P] 46)).alloc (.cells V 75)) b P := by
  have hb : Below b w2 w2 := Below.refl _ _
  refine ⟨by simp; omega, ?_, ?_, ((hb.alloc (by omega) _).alloc (by simp; omega) _).alloc (by simp; omega) _⟩
  · have h := (Boxed.new (w2.alloc (.cells (madeCells #[.int .i64 0, .float .f64 0, .float .f64 0] (P * 3)) 59)) 46 (.slice (some ⟨b, 0, none⟩) 0 P)).alloc (.cells V 75)
    rw [World.size_alloc, hs] at h
    exact h
  · refine World.ownsRow.alloc (World.ownsRow.alloc ?_ _) _
    have h := World.ownsRow_made (base := b) (e := 59) (size := 3) w2 (madeCells #[.int .i64 0, .float .f64 0, .float .f64 0] (P * 3)) P (by omega) (by unfold maxLen; omega) (by simp [madeCells])
    rw [hs] at h
    exact h

set_option maxRecDepth 100000 in
set_option maxHeartbeats 2000000 in
theorem read_in (n : Nat) (hn : 3 ≤ n) (xs ss : List Int) (off st dt : Int) {w : World} {su : Option Addr} {cu : Nat} {cs : List C3} (hcv : CV w (.slice su cs.length cu) cs) (hlc : cs.length ≤ 1048576) (hv : ValidV xs ss off) (hin : ∀ p ∈ offsL xs ss off, p < (cs.length : Int)) :
    CallsIn Fence.wide n Try.prog 35 #[.agg #[.int .i64 xs.length, .int .i64 (xs.getD 0 0), .int .i64 (xs.getD 1 0), .int .i64 (xs.getD 2 0), .int .i64 (xs.getD 3 0), .int .i64 (ss.getD 0 0), .int .i64 (ss.getD 1 0), .int .i64 (ss.getD 2 0), .int .i64 (ss.getD 3 0), .int .i64 off, .int .i64 st, .int .i64 dt, .slice su cs.length cu]] w fun e w' => CellsOk w ((offsL xs ss off).map fun p => cs.getD p.toNat k0) e w' := by
  have hdd : ∀ k : Nat, (Fence.wide.depth.isSome = true → 1 ≤ k) := fun k h => by cases h
  have hl4 := hv.1.1
  have hpb : 0 ≤ prod xs ∧ prod xs ≤ 4096 := ⟨by have := prod_plen (fun m hm => (good_nonneg hv.1 m hm).1); omega, hv.1.2.2⟩
  have hcnt := hide (fun W => count_any W xs hv.1.1 hv.1.2.1)
  have hpl := hide (fun n W => placesF_in n xs ss off W)
  have hst := hide (fun n Bf W hB => placesKN (cs.length : Int) n Bf xs ss off hv.1.1 hv.2.1 hv.1.2.1 hv.1.2.2 hv.2.2.2.1 hv.2.2.1 (fun x hx => ⟨(offs_in hv x hx).1, hin x hx⟩) W hB)
  have hOP := offs_cap hv
  clear hv hin
  have hmk := fun W => make_cells W (prod xs) hpb.1 hpb.2
  unfold vw at hpl hst
  unfold shp at hcnt
  generalize hOL : offsL xs ss off = OL at hst hOP
  have HOL := hide hOL
  clear hOL
  generalize xs.getD 0 0 = a0 at *
  generalize xs.getD 1 0 = a1 at *
  generalize xs.getD 2 0 = a2 at *
  generalize xs.getD 3 0 = a3 at *
  generalize ss.getD 0 0 = s0 at *
  generalize ss.getD 1 0 = s1 at *
  generalize ss.getD 2 0 = s2 at *
  generalize ss.getD 3 0 = s3 at *
  generalize hP : prod xs = P at *
  have HP := hide hP
  clear hP
  have hs2 : ((w.alloc (.cells #[.int .i64 xs.length, .int .i64 a0, .int .i64 a1, .int .i64 a2, .int .i64 a3, .int .i64 s0, .int .i64 s1, .int .i64 s2, .int .i64 s3, .int .i64 off, .int .i64 st, .int .i64 dt, .slice su cs.length cu] 77)).alloc (.cells #[.int .i64 xs.length, .int .i64 a0, .int .i64 a1, .int .i64 a2, .int .i64 a3] 73)).heap.size = w.heap.size + 1 + 1 := by simp
  have x2 : Ext w ((w.alloc (.cells #[.int .i64 xs.length, .int .i64 a0, .int .i64 a1, .int .i64 a2, .int .i64 a3, .int .i64 s0, .int .i64 s1, .int .i64 s2, .int .i64 s3, .int .i64 off, .int .i64 st, .int .i64 dt, .slice su cs.length cu] 77)).alloc (.cells #[.int .i64 xs.length, .int .i64 a0, .int .i64 a1, .int .i64 a2, .int .i64 a3] 73)) := ((Ext.refl w).alloc _ _).alloc _ _
  have c12 : ((w.alloc (.cells #[.int .i64 xs.length, .int .i64 a0, .int .i64 a1, .int .i64 a2, .int .i64 a3, .int .i64 s0, .int .i64 s1, .int .i64 s2, .int .i64 s3, .int .i64 off, .int .i64 st, .int .i64 dt, .slice su cs.length cu] 77)).alloc (.cells #[.int .i64 xs.length, .int .i64 a0, .int .i64 a1, .int .i64 a2, .int .i64 a3] 73)).cell? ⟨w.heap.size, 12, none⟩ = some (.slice su cs.length cu) := ((Ext.refl (w.alloc (.cells #[.int .i64 xs.length, .int .i64 a0, .int .i64 a1, .int .i64 a2, .int .i64 a3, .int .i64 s0, .int .i64 s1, .int .i64 s2, .int .i64 s3, .int .i64 off, .int .i64 st, .int .i64 dt, .slice su cs.length cu] 77))).alloc _ _).box (new_cell w #[.int .i64 xs.length, .int .i64 a0, .int .i64 a1, .int .i64 a2, .int .i64 a3, .int .i64 s0, .int .i64 s1, .int .i64 s2, .int .i64 s3, .int .i64 off, .int .i64 st, .int .i64 dt, .slice su cs.length cu] 77 w.heap.size rfl 12)
  have O0 := hide (RSt.start hs2 (show P.toNat ≤ 4096 by omega) #[.int .i64 xs.length, .int .i64 a0, .int .i64 a1, .int .i64 a2, .int .i64 a3, .int .i64 s0, .int .i64 s1, .int .i64 s2, .int .i64 s3, .int .i64 off])
  have hst2 := hide (hst.out (n - 1) (w.heap.size + 1 + 1 + 1 + 1) ((((w.alloc (.cells #[.int .i64 xs.length, .int .i64 a0, .int .i64 a1, .int .i64 a2, .int .i64 a3, .int .i64 s0, .int .i64 s1, .int .i64 s2, .int .i64 s3, .int .i64 off, .int .i64 st, .int .i64 dt, .slice su cs.length cu] 77)).alloc (.cells #[.int .i64 xs.length, .int .i64 a0, .int .i64 a1, .int .i64 a2, .int .i64 a3] 73)).alloc (.cells (madeCells #[.int .i64 0, .float .f64 0, .float .f64 0] (P.toNat * 3)) 59)).alloc (.cells #[.slice (some ⟨w.heap.size + 1 + 1, 0, none⟩) 0 P.toNat] 46)) (by simp))
  have X2 := hide x2.bl
  have HC12 := hide c12
  have HCV := hide hcv
  have Hs2 := hide hs2
  clear hst x2 c12 hcv hs2
  refine callsIn_of_wp_marks Try.func35 rfl trivial ?_ rfl
  simp only [Try.ntmps35, List.size_toArray, List.length_cons, List.length_nil, Nat.reduceAdd, Nat.reduceSub, Array.replicate_succ, Array.replicate_zero, List.push_toArray, List.append_toArray, List.nil_append, List.cons_append]
  gi_wp2
  refine ⟨trivial, hdd _, ?_⟩
  refine (callsIn_wide.2 (hcnt.out _)).mono ?_
  rintro e w2 ⟨rfl, hw2⟩
  have hmk2 := hmk w2
  gi_wp2
  refine ⟨trivial, hdd _, ?_⟩
  refine (hpl.out _ _).mono ?_
  rintro e w' ⟨rfl, rfl⟩
  clear hpl hmk2 hmk hcnt hw2
  have h1 : 1 ≤ n := by omega
  gi_wp2
  generalize hW0 : World.alloc ((((w.alloc (.cells #[.int .i64 xs.length, .int .i64 a0, .int .i64 a1, .int .i64 a2, .int .i64 a3, .int .i64 s0, .int .i64 s1, .int .i64 s2, .int .i64 s3, .int .i64 off, .int .i64 st, .int .i64 dt, .slice su cs.length cu] 77)).alloc (.cells #[.int .i64 xs.length, .int .i64 a0, .int .i64 a1, .int .i64 a2, .int .i64 a3] 73)).alloc _).alloc _) _ = W0 at O0 hst2 ⊢
  clear hW0
  generalize hW2 : ((w.alloc (.cells #[.int .i64 xs.length, .int .i64 a0, .int .i64 a1, .int .i64 a2, .int .i64 a3, .int .i64 s0, .int .i64 s1, .int .i64 s2, .int .i64 s3, .int .i64 off, .int .i64 st, .int .i64 dt, .slice su cs.length cu] 77)).alloc (.cells #[.int .i64 xs.length, .int .i64 a0, .int .i64 a1, .int .i64 a2, .int .i64 a3] 73)) = W2 at O0 X2 HC12 Hs2
  clear hW2
  have hsz := O0.out.size
  have hs2 := Hs2.out
  have hbl := O0.out.bl
  rw [← hs2] at hbl
  obtain ⟨i0, hi0, hz0, hz1, hz2⟩ := info_parts info59
  refine wpIn_rangeFunc_ownF rfl h1 (gf := 72) (lb := #[.pointer (some ⟨w.heap.size + 1 + 1 + 1 + 1, 0, none⟩)]) rfl trivial (enters_of Try.func72 (by kernel_rfl) rfl)
    hst2.out (fun h k => KC.trans h k) (fun W l o o' h1 h2 h3 h4 => kc_put W l o o' h1 h2 h3 h4) (Below.refl _ _) (fun _ => rfl)
    (fun pre W => (∃ v, Boxed W (w.heap.size + 1 + 1 + 1) 46 v ∧ W.ownsRow (w.heap.size + 1 + 1) 59 3 v pre.length (flat ((pnv pre).map fun p => cs.getD p.toNat k0)) ∧ v = .slice (some ⟨w.heap.size + 1 + 1, 0, none⟩) pre.length P.toNat) ∧ Below W2.heap.size W2 W)
    (fun _ _ _ => False)
    (OwnFrom.and (Own.from (holdsRow_own (w.heap.size + 1 + 1) (w.heap.size + 1 + 1 + 1) 46 59 3 (fun pre : List (PlN (cs.length : Int)) => pre.length) (fun pre => flat ((pnv pre).map fun p => cs.getD p.toNat k0)) (fun pre v => v = .slice (some ⟨w.heap.size + 1 + 1, 0, none⟩) pre.length P.toNat)) _) (ownFrom_below (Nat.le_refl _) (by omega)))
    (fun _ _ _ _ _ hs _ _ => hs)
    ⟨⟨_, O0.out.box, O0.out.row, rfl⟩, hbl⟩
    (fun x => { tmps := #[.agg #[.int .i64 xs.length, .int .i64 a0, .int .i64 a1, .int .i64 a2, .int .i64 a3, .int .i64 s0, .int .i64 s1, .int .i64 s2, .int .i64 s3, .int .i64 off, .int .i64 st, .int .i64 dt, .slice su cs.length cu], .pointer (some ⟨w.heap.size, 0, none⟩), .slice none 0 0, .pointer (some ⟨w.heap.size + 1 + 1 + 1, 0, none⟩), .int .i64 x.1, .pointer (some ⟨w.heap.size, 0, none⟩), .pointer (some ⟨w.heap.size, 0, none⟩), .agg #[.int .i64 xs.length, .int .i64 a0, .int .i64 a1, .int .i64 a2, .int .i64 a3], .int .i64 P, .slice (some ⟨w.heap.size + 1 + 1, 0, none⟩) 0 P.toNat, .pointer (some ⟨w.heap.size, 0, none⟩), .agg #[.int .i64 xs.length, .int .i64 a0, .int .i64 a1, .int .i64 a2, .int .i64 a3, .int .i64 s0, .int .i64 s1, .int .i64 s2, .int .i64 s3, .int .i64 off], .func (.func 72) #[] #[.pointer (some ⟨w.heap.size + 1 + 1 + 1 + 1, 0, none⟩)], .int .i64 x.1, undef, undef, undef, undef, undef, undef, undef, undef, undef], defers := [] }) ?assign ?body ?done ?stop
  case assign =>
    intro l x W K hK
    gi_wp2
    exact hK
  case body =>
    rintro l pre ⟨x, hx⟩ W ⟨⟨v, hbox, hrow, rfl⟩, hB⟩ hlen
    obtain ⟨k, rfl⟩ : ∃ k : Nat, x = k := ⟨x.toNat, by omega⟩
    have hc0 := hbox.cell
    have hf0 := hbox.frozen
    have hWs := hbox.lt
    have ha := Bel.box hB HC12.out
    have hkl : k < cs.length := by omega
    rcases HCV.out with ⟨su2, cu2, e2, h0 | ⟨bc, oc, e3, hrowC⟩⟩
    · rw [h0] at hkl; simp at hkl
    injection e2 with e4 _ _
    subst e4
    subst e3
    have hk0 : (0 : Int) ≤ (k : Int) := Int.natCast_nonneg _
    have hk1 : (k : Int) < (cs.length : Int) := by omega
    obtain ⟨t0, t1, t2⟩ := hrowC k hkl
    have hgd : Hid ((fun p : Int => cs.getD p.toNat k0) (k : Int) = cs.getD k k0) := by show cs.getD (k : Int).toNat k0 = _; rw [Int.toNat_natCast]
    generalize cs.getD k k0 = cx at t0 t1 t2 hgd
    obtain ⟨A, B, C⟩ := cx
    have hSB : Hid (∀ W' : World, Below W2.heap.size W2 W' → (fun w' : World => w'.cell? ⟨w.heap.size, 12, none⟩ = some (.slice (some ⟨bc, oc, none⟩) cs.length cu) ∧ w'.cell? ⟨bc, oc + k * 3, none⟩ = some (.int .i64 A) ∧ w'.cell? ⟨bc, oc + k * 3 + 1, none⟩ = some (.float .f64 B) ∧ w'.cell? ⟨bc, oc + k * 3 + 2, none⟩ = some (.float .f64 C)) W') := fun W' h' => ⟨Bel.box h' HC12.out, Bel.box h' (Bel.box X2.out t0), Bel.box h' (Bel.box X2.out t1), Bel.box h' (Bel.box X2.out t2)⟩
    have HS0 : Hid ((fun w' : World => w'.cell? ⟨w.heap.size, 12, none⟩ = some (.slice (some ⟨bc, oc, none⟩) cs.length cu) ∧ w'.cell? ⟨bc, oc + k * 3, none⟩ = some (.int .i64 A) ∧ w'.cell? ⟨bc, oc + k * 3 + 1, none⟩ = some (.float .f64 B) ∧ w'.cell? ⟨bc, oc + k * 3 + 2, none⟩ = some (.float .f64 C)) W.drew) := hSB.out W hB
    clear hrowC t0 t1 t2 ha
    gi_wp2
    refine region_in (S := (fun w' : World => w'.cell? ⟨w.heap.size, 12, none⟩ = some (.slice (some ⟨bc, oc, none⟩) cs.length cu) ∧ w'.cell? ⟨bc, oc + k * 3, none⟩ = some (.int .i64 A) ∧ w'.cell? ⟨bc, oc + k * 3 + 1, none⟩ = some (.float .f64 B) ∧ w'.cell? ⟨bc, oc + k * 3 + 2, none⟩ = some (.float .f64 C))) (by kernel_rfl) (by rfl) ?_
    refine wpAnyH_take (i := 1) (oi := { dst := some 15, op := Op.fieldAddr 77 (Operand.tmp 1) 3, type := 0, pos := _, after := #[], guard := none }) (v := (.pointer (some ⟨w.heap.size, 12, none⟩))) rfl (by kernel_rfl) (by kernel_rfl) (by kernel_rfl) (fun _ _ _ h => by cases h.1) (Or.inl ⟨by rfl, ?_⟩) HS0.out ?_
    · intro w' hSw
      obtain ⟨z0, z1, z2, z3⟩ := hSw
      go_simp
    simp only [Act.put, List.setIfInBounds_toArray, List.set_cons_zero, List.set_cons_succ]
    refine wpAnyH_take (i := 2) (oi := { dst := some 16, op := Op.load 46 (Operand.tmp 15), type := 46, pos := _, after := #[{ on := 1, ground := Ground.data }], guard := none }) (v := (.slice (some ⟨bc, oc, none⟩) cs.length cu)) rfl (by kernel_rfl) (by kernel_rfl) (by kernel_rfl) (fun _ _ _ h => by cases h.1) (Or.inl ⟨by rfl, ?_⟩) HS0.out ?_
    · intro w' hSw
      obtain ⟨z0, z1, z2, z3⟩ := hSw
      go_simp
    simp only [Act.put, List.setIfInBounds_toArray, List.set_cons_zero, List.set_cons_succ]
    refine wpAnyH_take (i := 3) (oi := { dst := some 17, op := Op.move (Operand.tmp 4), type := 2, pos := _, after := #[], guard := none }) (v := (.int .i64 (k : Int))) rfl (by kernel_rfl) (by kernel_rfl) (by kernel_rfl) (fun _ _ _ h => by cases h.1) (Or.inl ⟨by rfl, ?_⟩) HS0.out ?_
    · intro w' hSw
      obtain ⟨z0, z1, z2, z3⟩ := hSw
      go_simp
    simp only [Act.put, List.setIfInBounds_toArray, List.set_cons_zero, List.set_cons_succ]
    refine wpAnyH_take (i := 4) (oi := { dst := some 18, op := Op.indexAddr 46 (Operand.tmp 16) (Operand.tmp 17), type := 0, pos := _, after := #[{ on := 2, ground := Ground.data }, { on := 3, ground := Ground.data }], guard := none }) (v := (.pointer (some ⟨bc, oc + k * 3, none⟩))) rfl (by kernel_rfl) (by kernel_rfl) (by kernel_rfl) (fun _ _ _ h => by cases h.1) (Or.inl ⟨by rfl, ?_⟩) HS0.out ?_
    · intro w' hSw
      obtain ⟨z0, z1, z2, z3⟩ := hSw
      go_simp
    simp only [Act.put, List.setIfInBounds_toArray, List.set_cons_zero, List.set_cons_succ]
    refine wpAnyH_take (i := 5) (oi := { dst := some 19, op := Op.load 59 (Operand.tmp 18), type := 59, pos := _, after := #[{ on := 4, ground := Ground.data }], guard := none }) (v := (.agg #[.int .i64 A, .float .f64 B, .float .f64 C])) rfl (by kernel_rfl) (by kernel_rfl) (by kernel_rfl) (fun _ _ _ h => by cases h.1) (Or.inl ⟨by rfl, ?_⟩) HS0.out ?_
    · intro w' hSw
      obtain ⟨z0, z1, z2, z3⟩ := hSw
      go_simp
    simp only [Act.put, List.setIfInBounds_toArray, List.set_cons_zero, List.set_cons_succ]
    have HN := hide (World.news_of_block (w := (W.alloc (.cells #[.int .i64 A, .float .f64 B, .float .f64 C] 59)).drew) (cs := #[.int .i64 A, .float .f64 B, .float .f64 C]) (t := 59) (fr := (0, 0)) (heap_alloc_new W _))
    have HS1 : Hid ((fun w' : World => w'.cell? ⟨w.heap.size, 12, none⟩ = some (.slice (some ⟨bc, oc, none⟩) cs.length cu) ∧ w'.cell? ⟨bc, oc + k * 3, none⟩ = some (.int .i64 A) ∧ w'.cell? ⟨bc, oc + k * 3 + 1, none⟩ = some (.float .f64 B) ∧ w'.cell? ⟨bc, oc + k * 3 + 2, none⟩ = some (.float .f64 C)) (W.alloc (.cells #[.int .i64 A, .float .f64 B, .float .f64 C] 59)).drew) := hSB.out (W.alloc (.cells #[.int .i64 A, .float .f64 B, .float .f64 C] 59)) (hB.alloc hB.size _)
    have hb1 : pre.length + 1 ≤ P.toNat := by omega
    have hWs2 := hB.size
    refine wpAnyH_ready (rs := [0, 6]) (by kernel_rfl) (by simp) ?_
    refine AllReadyH.cons (o := { dst := some 14, op := Op.load 46 (Operand.tmp 3), type := 46, pos := _, after := #[], guard := none }) rfl (fun K hK => ?_) (AllReadyH.cons (o := { dst := some 20, op := Op.buildSlice 46 1 #[(0, Operand.tmp 19)], type := 46, pos := _, after := #[{ on := 5, ground := Ground.data }], guard := none }) rfl (fun K hK => ?_) AllReadyH.nil)
    · go_simp
      refine hK.out _ _ HS0.out (fun _ => ?_)
      clear hK K
      try simp only [Act.put, List.setIfInBounds_toArray, List.set_cons_zero, List.set_cons_succ]
      refine wpAnyH_ready (rs := [6]) (by kernel_rfl) (by simp) ?_
      refine AllReadyH.cons (o := { dst := some 20, op := Op.buildSlice 46 1 #[(0, Operand.tmp 19)], type := 46, pos := _, after := #[{ on := 5, ground := Ground.data }], guard := none }) rfl (fun K hK => ?_) AllReadyH.nil
      go_simp
      refine hK.out _ _ HS1.out (fun _ => ?_)
      clear hK K
      try simp only [Act.put, List.setIfInBounds_toArray, List.set_cons_zero, List.set_cons_succ]
      refine wpAnyH_ready (rs := [7]) (by kernel_rfl) (by simp) ?_
      refine AllReadyH.cons (o := { dst := some 21, op := Op.call { callee := Callee.builtin Builtin.append, args := #[Operand.tmp 14, Operand.tmp 20], argTypes := #[46, 46] }, type := 46, pos := _, after := #[{ on := 0, ground := Ground.data }, { on := 6, ground := Ground.data }], guard := none }) rfl (fun K hK => ?_) AllReadyH.nil
      refine step_append_fits (by rfl) (.tmp 14) (.tmp 20) 46 (by rfl) (w.heap.size + 1 + 1) 59 i0 3 Try.underlying46 hi0 hz1 (w.heap.size + 1 + 1) pre.length P.toNat _ (by rfl) ((hrow.alloc _).drew) ⟨W.heap.size, 0, none⟩ 1 1 (c3v (A, B, C)) (by rfl) (by rfl) HN.out (c3v_one _) hb1 ?_
      intro w3 hown3 hgrow3
      have hgrow4 : (W.alloc (.cells #[.int .i64 A, .float .f64 B, .float .f64 C] 59)).grownBy w3 (some (w.heap.size + 1 + 1)) := ⟨hgrow3.os, hgrow3.tape, hgrow3.output, hgrow3.size, hgrow3.block⟩
      obtain ⟨hv1, hv2, hr2, hk2, hb2⟩ := hbox.appended (by decide) hrow (by omega) (by omega) hown3 hgrow4
      have hb3 : Below W2.heap.size W (w3.setCell ⟨w.heap.size + 1 + 1 + 1, 0, none⟩ (.slice (some ⟨w.heap.size + 1 + 1, 0, none⟩) (pre.length + 1) P.toNat)) := by rw [hs2]; exact hb2
      have HB4 := hide (hB.trans hb3)
      have HB3 := hide (Below.grown (hB.alloc hB.size (.cells #[.int .i64 A, .float .f64 B, .float .f64 C] 59)) hgrow4 (by simp; omega) (fun j hj => by cases hj; omega))
      have hc1 := hv1.cell
      have hf1 := hv1.frozen
      refine hK.out _ _ (hSB.out _ HB3.out) (fun _ => ?_)
      clear hK K
      try simp only [Act.put, List.setIfInBounds_toArray, List.set_cons_zero, List.set_cons_succ]
      refine wpAnyH_ready (rs := [8]) (by kernel_rfl) (by simp) ?_
      refine AllReadyH.cons (o := { dst := none, op := Op.store 46 (Operand.tmp 3) (Operand.tmp 21), type := 0, pos := _, after := #[{ on := 7, ground := Ground.data }, { on := 7, ground := Ground.chain }, { on := 0, ground := Ground.phase }, { on := 1, ground := Ground.phase }, { on := 2, ground := Ground.phase }, { on := 3, ground := Ground.phase }, { on := 4, ground := Ground.phase }, { on := 5, ground := Ground.phase }, { on := 6, ground := Ground.phase }, { on := 7, ground := Ground.phase }], guard := none }) rfl (fun K hK => ?_) AllReadyH.nil
      go_simp
      refine hK.out _ _ (hSB.out _ HB4.out) (fun _ => ?_)
      refine wpAnyH_done (by kernel_rfl) ?_ _
      refine ⟨rfl, ?_⟩
      refine ⟨hk2, ((KC.alloc _ W _).trans (KC.grown hgrow4 (by omega))).trans (KC.setCell w3 (p := ⟨w.heap.size + 1 + 1 + 1, 0, none⟩) (by show w.heap.size + 1 + 1 + 1 < _; omega) _), ⟨_, hv2, ?_, ?_⟩, HB4.out⟩
      · rw [pnv_append, List.map_append]
        show World.ownsRow _ _ _ _ _ _ (flat (_ ++ [cs.getD (k : Int).toNat k0]))
        rw [show cs.getD (k : Int).toNat k0 = (A, B, C) from hgd.out, flat_one, List.length_append]
        exact hr2
      · simp
    · go_simp
      refine hK.out _ _ HS1.out (fun _ => ?_)
      clear hK K
      try simp only [Act.put, List.setIfInBounds_toArray, List.set_cons_zero, List.set_cons_succ]
      refine wpAnyH_ready (rs := [0]) (by kernel_rfl) (by simp) ?_
      refine AllReadyH.cons (o := { dst := some 14, op := Op.load 46 (Operand.tmp 3), type := 46, pos := _, after := #[], guard := none }) rfl (fun K hK => ?_) AllReadyH.nil
      have hc0a : (W.alloc (.cells #[.int .i64 A, .float .f64 B, .float .f64 C] 59)).cell? ⟨w.heap.size + 1 + 1 + 1, 0, none⟩ = some (.slice (some ⟨w.heap.size + 1 + 1, 0, none⟩) pre.length P.toNat) := cell_al _ hc0
      go_simp
      refine hK.out _ _ HS1.out (fun _ => ?_)
      clear hK K
      try simp only [Act.put, List.setIfInBounds_toArray, List.set_cons_zero, List.set_cons_succ]
      refine wpAnyH_ready (rs := [7]) (by kernel_rfl) (by simp) ?_
      refine AllReadyH.cons (o := { dst := some 21, op := Op.call { callee := Callee.builtin Builtin.append, args := #[Operand.tmp 14, Operand.tmp 20], argTypes := #[46, 46] }, type := 46, pos := _, after := #[{ on := 0, ground := Ground.data }, { on := 6, ground := Ground.data }], guard := none }) rfl (fun K hK => ?_) AllReadyH.nil
      refine step_append_fits (by rfl) (.tmp 14) (.tmp 20) 46 (by rfl) (w.heap.size + 1 + 1) 59 i0 3 Try.underlying46 hi0 hz1 (w.heap.size + 1 + 1) pre.length P.toNat _ (by rfl) ((hrow.alloc _).drew) ⟨W.heap.size, 0, none⟩ 1 1 (c3v (A, B, C)) (by rfl) (by rfl) HN.out (c3v_one _) hb1 ?_
      intro w3 hown3 hgrow3
      have hgrow4 : (W.alloc (.cells #[.int .i64 A, .float .f64 B, .float .f64 C] 59)).grownBy w3 (some (w.heap.size + 1 + 1)) := ⟨hgrow3.os, hgrow3.tape, hgrow3.output, hgrow3.size, hgrow3.block⟩
      obtain ⟨hv1, hv2, hr2, hk2, hb2⟩ := hbox.appended (by decide) hrow (by omega) (by omega) hown3 hgrow4
      have hb3 : Below W2.heap.size W (w3.setCell ⟨w.heap.size + 1 + 1 + 1, 0, none⟩ (.slice (some ⟨w.heap.size + 1 + 1, 0, none⟩) (pre.length + 1) P.toNat)) := by rw [hs2]; exact hb2
      have HB4 := hide (hB.trans hb3)
      have HB3 := hide (Below.grown (hB.alloc hB.size (.cells #[.int .i64 A, .float .f64 B, .float .f64 C] 59)) hgrow4 (by simp; omega) (fun j hj => by cases hj; omega))
      have hc1 := hv1.cell
      have hf1 := hv1.frozen
      refine hK.out _ _ (hSB.out _ HB3.out) (fun _ => ?_)
      clear hK K
      try simp only [Act.put, List.setIfInBounds_toArray, List.set_cons_zero, List.set_cons_succ]
      refine wpAnyH_ready (rs := [8]) (by kernel_rfl) (by simp) ?_
      refine AllReadyH.cons (o := { dst := none, op := Op.store 46 (Operand.tmp 3) (Operand.tmp 21), type := 0, pos := _, after := #[{ on := 7, ground := Ground.data }, { on := 7, ground := Ground.chain }, { on := 0, ground := Ground.phase }, { on := 1, ground := Ground.phase }, { on := 2, ground := Ground.phase }, { on := 3, ground := Ground.phase }, { on := 4, ground := Ground.phase }, { on := 5, ground := Ground.phase }, { on := 6, ground := Ground.phase }, { on := 7, ground := Ground.phase }], guard := none }) rfl (fun K hK => ?_) AllReadyH.nil
      go_simp
      refine hK.out _ _ (hSB.out _ HB4.out) (fun _ => ?_)
      refine wpAnyH_done (by kernel_rfl) ?_ _
      refine ⟨rfl, ?_⟩
      refine ⟨hk2, ((KC.alloc _ W _).trans (KC.grown hgrow4 (by omega))).trans (KC.setCell w3 (p := ⟨w.heap.size + 1 + 1 + 1, 0, none⟩) (by show w.heap.size + 1 + 1 + 1 < _; omega) _), ⟨_, hv2, ?_, ?_⟩, HB4.out⟩
      · rw [pnv_append, List.map_append]
        show World.ownsRow _ _ _ _ _ _ (flat (_ ++ [cs.getD (k : Int).toNat k0]))
        rw [show cs.getD (k : Int).toNat k0 = (A, B, C) from hgd.out, flat_one, List.length_append]
        exact hr2
      · simp
  case done =>
    rintro D ys W hD hS ⟨⟨v, hbox, hrow, rfl⟩, hB⟩ hK
    have hc0 := hbox.cell
    gi_wp2
    refine ⟨by simp, .inl ⟨_, _, rfl, run_takeDeferred hK, ?_⟩⟩
    refine ⟨_, results_tmp rfl _ _ _, ?_⟩
    have hrow2 := hrow.kept (grownBy_putObj' W D (.deferred none)) (.inr (fun e => by
      have : w.heap.size + 1 + 1 = D := by simpa [Value.ownBlock] using e
      omega))
    obtain ⟨sa3, cap3, e3, o3⟩ := own_cells (lo := w.heap.size) (by omega) hrow2
    rw [← hS]
    refine ⟨sa3, cap3, ?_, o3, Bel.tr X2.out (hB.trans (belowK_b (w := W2) (Nat.le_refl _) W D _ _ (by omega) hK rfl rfl))⟩
    rw [← e3]
    rfl
  case stop =>
    rintro D c pre W _ _ h _
    exact h.elim
end Go.Proofs.Ytbkdfhlbjaiahaa
namespace Go.Proofs.Ytbkdfhlbjaiahaa
open Go.ChangeShapes Go.RowKit FL
set_option linter.unusedSimpArgs false
set_option linter.unusedVariables false

def RdRel (w2 : World) (g0 : Nat) (f : Int → C3) (L : List Int) (o i : Value) (wr : World) : Prop := ∃ m : Nat, i = .int .i64 m ∧ m ≤ L.length ∧ wr.ownsRow g0 59 3 o m (flat ((L.take m).map f)) ∧ (o.ownBlock = some g0 ∨ ∃ k, o.ownBlock = some k ∧ w2.heap.size ≤ k) ∧ w2.grownBy wr (some g0)
theorem take_more (f : Int → C3) (L : List Int) (m : Nat) (hm : m < L.length) : (L.take (m + 1)).map f = (L.take m).map f ++ [f (L.getD m 0)] := by
  rw [List.take_add_one, List.map_append, List.getD_eq_getElem?_getD, List.getElem?_eq_getElem hm]
  rfl

set_option maxRecDepth 100000 in
set_option maxHeartbeats 4000000 in
theorem l4Read_any {w : World} {v vS vT : Value} {ss : List St} {xs sv : List Int} (h : SV w v ss) (hl : SL ss 1048576) (st : Int) (hS : Ints w vS xs) (hT : Ints w vT sv) (off : Int) (hG : GoodA ss st xs sv off) :
    Calls Try.prog 34 #[.agg #[v], .int .i64 st, .agg #[vS, vT, .int .i64 off]] w fun e w' => CellsOk w (readL ss st xs sv off) e w' := by
  obtain ⟨i59, hi59, hy0, hy1, hy2⟩ := info_parts info59
  obtain ⟨sa, cap, rfl, hx⟩ := h
  have h : SV w (.slice sa ss.length cap) ss := ⟨sa, cap, rfl, hx⟩
  have n1 := fun j => new_cell w #[.slice sa ss.length cap] 29 w.heap.size rfl j
  generalize hW1 : (w.alloc (.cells #[.slice sa ss.length cap] 29)).alloc (.cells #[vS, vT, .int .i64 off] 40) = W1
  have x1 : Ext w W1 := by rw [← hW1]; exact ((Ext.refl w).alloc _ _).alloc _ _
  have hs1 : W1.heap.size = w.heap.size + 1 + 1 := by rw [← hW1]; simp
  have c1 : W1.cell? ⟨w.heap.size, 0, none⟩ = some (.slice sa ss.length cap) := by rw [← hW1]; exact ((Ext.refl _).alloc _ _).box (n1 0)
  have y0 : Ext W1 (W1.alloc (.cells #[] 59)) := (Ext.refl _).alloc _ _
  have x0 : Ext w (W1.alloc (.cells #[] 59)) := x1.trans y0
  have C0 : Hid ((W1.alloc (.cells #[] 59)).cell? ⟨w.heap.size, 0, none⟩ = some (.slice sa ss.length cap)) := y0.box c1
  have O0 : Hid ((W1.alloc (.cells #[] 59)).ownsRow (w.heap.size + 1 + 1) 59 3 (.slice (some ⟨w.heap.size + 1 + 1, 0, none⟩) 0 0) 0 []) := by
    have := World.ownsRow_made (base := w.heap.size + 1 + 1) (e := 59) (size := 3) W1 #[] 0 (by omega) (by unfold maxLen; omega) (by simp)
    rw [hs1] at this
    exact this
  have X0 := hide x0
  have HH := hide h
  have HS := hide (hS.ext x0)
  have HT := hide (hT.ext x0)
  have hl1 := hl.1
  have hsW : (W1.alloc (.cells #[] 59)).heap.size = w.heap.size + 3 := by simp; omega
  clear hx h x0 y0 n1 c1 x1 hs1
  obtain ⟨s1, d1, rfl, _⟩ := hS
  obtain ⟨s2, d2, rfl, _⟩ := hT
  obtain ⟨⟨hk0, hk1⟩, hv, hin⟩ := hG
  obtain ⟨k, rfl⟩ : ∃ k : Nat, st = (k : Int) := ⟨st.toNat, by omega⟩
  have hk : k < ss.length := by omega
  have hL : Hid (readL ss k xs sv off = (offsL xs sv off).map fun p => (ss.getD k s0).2.getD p.toNat k0) := by show readL ss k xs sv off = _; unfold readL; rw [Int.toNat_natCast]
  rw [Int.toNat_natCast] at hin
  have hoff := hide (l2Offsets_any HS.out HT.out off hv)
  have hOl := offs_len hv
  have hon : Hid (∀ p ∈ offsL xs sv off, 0 ≤ p ∧ p < ((ss.getD k s0).2.length : Int)) := fun p hp => ⟨(offs_in hv p hp).1, hin p hp⟩
  clear hin hv
  generalize hW0 : W1.alloc (.cells #[] 59) = W0 at C0 O0 X0 HS HT hoff hsW
  subst hW1
  have HW0 := hide hW0
  clear hW0
  go_enter Try.func34, Try.ntmps34
  go_wp2_with fail
  rw [HW0.out]
  refine hoff.out.mono ?_
  rintro e w2 ⟨so, co, rfl, hO, x2⟩
  have HO := hide hO
  have HX2 := hide x2
  have c2' := Bel.box x2 C0.out
  have O2 : Hid (w2.ownsRow (w.heap.size + 1 + 1) 59 3 (.slice (some ⟨w.heap.size + 1 + 1, 0, none⟩) 0 0) 0 []) := O0.out.kept (row := none) ⟨x2.os, x2.tape, x2.output, x2.size, fun k hk _ => x2.block k hk⟩ (Or.inr (by intro e; cases e))
  have hs2 : w.heap.size + 3 ≤ w2.heap.size := by have := Below.size x2; omega
  have X2 := hide (Bel.tr X0.out.bl x2)
  clear x2 hO C0 O0 X0 HS HT hoff HW0
  obtain ⟨sb0, cb0, eb0, hrow0⟩ := HH.out
  injection eb0 with eb1 _ eb2
  subst eb1 eb2
  rcases hrow0 with h0 | ⟨bs, os, rfl, hrow⟩
  · rw [h0] at hk; simp at hk
  obtain ⟨q0, u, q1, q2⟩ := hrow k hk
  have hcl := hl.at k hk
  have Q2 := hide q2
  clear hrow q2
  obtain ⟨su, cu, rfl, _⟩ := Q2.out
  generalize (ss.getD k s0).1 = DT at q0
  generalize (ss.getD k s0).2 = cs at q1 Q2 hcl hL hon
  generalize offsL xs sv off = L at HO hOl hon hL ⊢
  have hb0 : bs < w.heap.size := cell_lt q1
  have q1 := Bel.box X2.out q1
  have hM8 : (4096 + 1) * 24 ≤ 140737488355328 := by omega
  go_wp2_with fail
  go_loopw [7, 9] (fun o i wr => RdRel w2 (w.heap.size + 1 + 1) (fun p => cs.getD p.toNat k0) L o i wr) (fun o i _ => L.length - (intOf i).toNat)
  case atStart => exact ⟨0, rfl, by omega, O2.out, Or.inl rfl, ⟨rfl, rfl, rfl, Nat.le_refl _, fun _ _ _ => rfl⟩⟩
  case round =>
    obtain ⟨m, rfl, hm, hown, hob, hgr⟩ := hrel
    have HOW := hide hown
    have HOB := hide hob
    have HGR := hide hgr
    clear hown hob hgr
    by_cases hml : m < L.length
    · rcases HO.out with h0 | ⟨g, rfl, hg1, hrowL, _⟩
      · rw [h0] at hml; simp at hml
      have hmem := hon.out (L.getD m 0) (by rw [List.getD_eq_getElem?_getD, List.getElem?_eq_getElem hml]; exact List.getElem_mem hml)
      have l0 := hrowL m hml
      rw [Nat.zero_add] at l0
      have hgl := cell_lt l0
      have HT2 := hide (take_more (fun p => cs.getD p.toNat k0) L m hml)
      obtain ⟨x, hxx⟩ : ∃ x : Nat, L.getD m 0 = (x : Int) := ⟨(L.getD m 0).toNat, by omega⟩
      rw [hxx] at l0 hmem HT2
      rw [Int.toNat_natCast] at HT2
      have hxl : x < cs.length := by omega
      rcases Q2.out with ⟨su2, cu2, e2, h0 | ⟨bc, oc, e3, hrowC⟩⟩
      · rw [h0] at hxl; simp at hxl
      injection e2 with e4 _ _
      subst e4
      subst e3
      have t0 := hrowC x hxl
      have t1 := t0.2.1
      have t2 := t0.2.2
      have t0 := t0.1
      have hbc := cell_lt t0
      have t0 := Bel.box X2.out t0
      have t1 := Bel.box X2.out t1
      have t2 := Bel.box X2.out t2
      generalize cs.getD x k0 = cx at t0 t1 t2 HT2
      obtain ⟨A, B, C⟩ := cx
      clear hrowC hrowL hxx
      have hsr := HGR.out.size
      have s0' := grown_box HGR.out (by omega) c2'
      have s1' := grown_box HGR.out (by omega) q1
      have s2' := grown_box HGR.out (by omega) l0
      have s3' := grown_box HGR.out (by omega) t0
      have s4' := grown_box HGR.out (by omega) t1
      have s5' := grown_box HGR.out (by omega) t2
      have hm0 : (0 : Int) ≤ (m : Int) := Int.natCast_nonneg _
      have hm1 : (m : Int) < (L.length : Int) := by omega
      have hx0 : (0 : Int) ≤ (x : Int) := Int.natCast_nonneg _
      have hx1 : (x : Int) < (cs.length : Int) := by omega
      have SA : Hid ((fun w' => w'.cell? ⟨w.heap.size, 0, none⟩ = some (.slice (some ⟨bs, os, none⟩) ss.length cap) ∧ w'.cell? ⟨bs, os + k * 2 + 1, none⟩ = some (.slice (some ⟨bc, oc, none⟩) cs.length cu) ∧ w'.cell? ⟨g, m, none⟩ = some (.int .i64 (x : Int)) ∧ w'.cell? ⟨bc, oc + x * 3, none⟩ = some (.int .i64 A) ∧ w'.cell? ⟨bc, oc + x * 3 + 1, none⟩ = some (.float .f64 B) ∧ w'.cell? ⟨bc, oc + x * 3 + 2, none⟩ = some (.float .f64 C)) wr.drew) := ⟨s0', s1', s2', s3', s4', s5'⟩
      have hS : Hid (∀ W : World, w2.grownBy W (some (w.heap.size + 1 + 1)) → (fun w' => w'.cell? ⟨w.heap.size, 0, none⟩ = some (.slice (some ⟨bs, os, none⟩) ss.length cap) ∧ w'.cell? ⟨bs, os + k * 2 + 1, none⟩ = some (.slice (some ⟨bc, oc, none⟩) cs.length cu) ∧ w'.cell? ⟨g, m, none⟩ = some (.int .i64 (x : Int)) ∧ w'.cell? ⟨bc, oc + x * 3, none⟩ = some (.int .i64 A) ∧ w'.cell? ⟨bc, oc + x * 3 + 1, none⟩ = some (.float .f64 B) ∧ w'.cell? ⟨bc, oc + x * 3 + 2, none⟩ = some (.float .f64 C)) W) := fun W hW => ⟨grown_box hW (by omega) c2', grown_box hW (by omega) q1, grown_box hW (by omega) l0, grown_box hW (by omega) t0, grown_box hW (by omega) t1, grown_box hW (by omega) t2⟩
      have HGA := hide (grown_drew (grown_alloc HGR.out (.cells #[.int .i64 A, .float .f64 B, .float .f64 C] 59)))
      have SB := hide (hS.out _ HGA.out)
      have hnews := World.news_of_block (w := (wr.alloc (.cells #[.int .i64 A, .float .f64 B, .float .f64 C] 59)).drew) (cs := #[.int .i64 A, .float .f64 B, .float .f64 C]) (t := 59) (fr := (0, 0)) (heap_alloc_new wr _)
      have HN := hide hnews
      clear hnews
      have hbase : w.heap.size + 1 + 1 ≤ ((wr.alloc (.cells #[.int .i64 A, .float .f64 B, .float .f64 C] 59)).drew).heap.size := by show _ ≤ (wr.alloc _).heap.size; simp; omega
      have hH : ((wr.alloc (.cells #[.int .i64 A, .float .f64 B, .float .f64 C] 59)).drew).heap.size = wr.heap.size + 1 := by show (wr.alloc _).heap.size = _; simp
      have h63 : m + 1 ≤ maxLen := by unfold maxLen; omega
      have h24 : (m + 1) * 24 ≤ 140737488355328 := by omega
      go_wp2_with fail
      go_region_held3 (fun w' => w'.cell? ⟨w.heap.size, 0, none⟩ = some (.slice (some ⟨bs, os, none⟩) ss.length cap) ∧ w'.cell? ⟨bs, os + k * 2 + 1, none⟩ = some (.slice (some ⟨bc, oc, none⟩) cs.length cu) ∧ w'.cell? ⟨g, m, none⟩ = some (.int .i64 (x : Int)) ∧ w'.cell? ⟨bc, oc + x * 3, none⟩ = some (.int .i64 A) ∧ w'.cell? ⟨bc, oc + x * 3 + 1, none⟩ = some (.float .f64 B) ∧ w'.cell? ⟨bc, oc + x * 3 + 2, none⟩ = some (.float .f64 C)) (first | with_reducible exact SA.out | with_reducible exact SB.out | with_reducible exact SC.out | exact SA.out | exact SB.out | exact SC.out | fail) ((refine step_append_lies _ (by rfl) (.tmp 19) (.tmp 32) 46 (by rfl) (w.heap.size + 1 + 1) 59 i59 (.agg #[.int .i64 0, .float .f64 0, .float .f64 0]) 3 24 Try.underlying46 hi59 hy0 hy1 hy2 rfl (by omega) _ m _ (by rfl) ((HOW.out.alloc _).drew) ⟨wr.heap.size, 0, none⟩ 1 1 (c3v (A, B, C)) (by rfl) (by rfl) HN.out (c3v_one _) (by omega) h63 h24 hbase (wr.heap.size + 1) hH ?_; intro g9 cap9 w9 hown9 hgrow9 hat9 hlt9; have HG9 := hide (grown_more HGA.out hgrow9 HOB.out); have SC := hide (hS.out _ HG9.out); have HO9 := hide hown9; have HA9 := hide hat9; clear hown9 hgrow9 hat9))
      go_wp2
      go_roundw
      · refine ⟨m + 1, by go_num, by omega, ?_, ?_, HG9.out⟩
        · rw [HT2.out, flat_one]
          exact HO9.out
        · rcases HA9.out with e | e
          · rcases HOB.out with q | ⟨z, q, hz⟩
            · exact Or.inl (by rw [← q, e]; rfl)
            · exact Or.inr ⟨z, by rw [← q, e]; rfl, hz⟩
          · exact Or.inr ⟨g9, rfl, by omega⟩
      · simp [intOf]; omega
    · have hmm : m = L.length := by omega
      subst hmm
      have H1 := HOW.out
      rw [List.take_length] at H1
      obtain ⟨sz, cz, rfl, ho⟩ := own_cells (lo := w.heap.size) (by omega) H1
      have HB : Bel w wr := ⟨HGR.out.os.trans X2.out.os, HGR.out.tape.trans X2.out.tape, HGR.out.output.trans X2.out.output, Nat.le_trans X2.out.size HGR.out.size, fun j hj => (HGR.out.block j (Nat.lt_of_lt_of_le hj X2.out.size) (fun e => by cases e; omega)).trans (X2.out.block j hj)⟩
      have HHo := hide ho
      have HHB := hide HB
      clear ho H1 HB
      go_wp2
      go_ret
      rw [hL.out]
      exact ⟨sz, cz, rfl, HHo.out, HHB.out⟩
end Go.Proofs.Ytbkdfhlbjaiahaa
namespace Go.Proofs.Ytbkdfhlbjaiahaa
open Go.ChangeShapes Go.RowKit FL
set_option linter.unusedSimpArgs false
set_option linter.unusedVariables false
theorem readA_yes {ss : List St} {st : Int} {xs sv : List Int} {off : Int} (h : vHeap ss = true) (g : GoodA ss st xs sv off) : readA ss st xs sv off = readL ss st xs sv off := if_pos ⟨h, g⟩
theorem readA_no {ss : List St} {st : Int} {xs sv : List Int} {off : Int} (h : ¬ (vHeap ss = true ∧ GoodA ss st xs sv off)) : readA ss st xs sv off = [] := if_neg h

set_option maxRecDepth 100000 in
set_option maxHeartbeats 2000000 in
theorem sRd_any {w : World} {v vS vT : Value} {ss : List St} {xs sv : List Int} (h : SV w v ss) (hg : SG ss) (hl : SL ss 1048576) (st : Int) (hS : Ints w vS xs) (hT : Ints w vT sv) (off : Int) (lx : xs.length ≤ 1048576) (ls : sv.length ≤ 1048576) :
    Calls Try.prog 16 #[.agg #[v], .agg #[.int .i64 st, vS, vT, .int .i64 off]] w fun e w' => CellsOk w (readA ss st xs sv off) e w' := by
  obtain ⟨sa, cap, rfl, hx⟩ := h
  have h : SV w (.slice sa ss.length cap) ss := ⟨sa, cap, rfl, hx⟩
  have x0 : Ext w ((w.alloc (.cells #[.slice sa ss.length cap] 29)).alloc (.cells #[.int .i64 st, vS, vT, .int .i64 off] 42)) := ((Ext.refl w).alloc _ _).alloc _ _
  have y0 : Ext (w.alloc (.cells #[.slice sa ss.length cap] 29)) ((w.alloc (.cells #[.slice sa ss.length cap] 29)).alloc (.cells #[.int .i64 st, vS, vT, .int .i64 off] 42)) := (Ext.refl _).alloc _ _
  have n1 := fun j => new_cell w #[.slice sa ss.length cap] 29 w.heap.size rfl j
  have n2 := fun j => new_cell (w.alloc (.cells #[.slice sa ss.length cap] 29)) #[.int .i64 st, vS, vT, .int .i64 off] 42 (w.heap.size + 1) (by simp) j
  have C0 : Hid (((w.alloc (.cells #[.slice sa ss.length cap] 29)).alloc (.cells #[.int .i64 st, vS, vT, .int .i64 off] 42)).cell? ⟨w.heap.size, 0, none⟩ = some (.slice sa ss.length cap)) := y0.box (n1 0)
  have A0 : Hid (((w.alloc (.cells #[.slice sa ss.length cap] 29)).alloc (.cells #[.int .i64 st, vS, vT, .int .i64 off] 42)).cell? ⟨w.heap.size + 1, 0, none⟩ = some (.int .i64 st)) := n2 0
  have A1 : Hid (((w.alloc (.cells #[.slice sa ss.length cap] 29)).alloc (.cells #[.int .i64 st, vS, vT, .int .i64 off] 42)).cell? ⟨w.heap.size + 1, 1, none⟩ = some vS) := n2 1
  have A2 : Hid (((w.alloc (.cells #[.slice sa ss.length cap] 29)).alloc (.cells #[.int .i64 st, vS, vT, .int .i64 off] 42)).cell? ⟨w.heap.size + 1, 2, none⟩ = some vT) := n2 2
  have A3 : Hid (((w.alloc (.cells #[.slice sa ss.length cap] 29)).alloc (.cells #[.int .i64 st, vS, vT, .int .i64 off] 42)).cell? ⟨w.heap.size + 1, 3, none⟩ = some (.int .i64 off)) := n2 3
  have X0 := hide x0
  have HH := hide (h.keep x0.bl)
  have HS := hide (hS.ext x0)
  have HT := hide (hT.ext x0)
  have hva := hide (sVA_any HH.out hg hl st HS.out HT.out off lx ls)
  clear hx h x0 y0 n1 n2
  obtain ⟨s1, d1, rfl, _⟩ := hS
  obtain ⟨s2, d2, rfl, _⟩ := hT
  generalize hW0 : (w.alloc (.cells #[.slice sa ss.length cap] 29)).alloc (.cells #[.int .i64 st, .slice s1 xs.length d1, .slice s2 sv.length d2, .int .i64 off] 42) = W0 at C0 A0 A1 A2 A3 X0 HH HS HT hva
  have HW0 := hide hW0
  clear hW0
  by_cases hV : vHeap ss = true ∧ GoodA ss st xs sv off
  · have hb : (vHeap ss && (dcGoodA ss st xs sv off)) = true := by rw [hV.1, dcGoodA_t hV.2]; rfl
    rw [hb] at hva
    have HR := hide (readA_yes hV.1 hV.2)
    have HV := hide hV.2
    clear hV hb
    go_enter Try.func16, Try.ntmps16
    go_wp2_with (first | (go_at_call 12; rw [HW0.out]; refine hva.out.mono ?_; rintro e w1 ⟨rfl, x1⟩; have c0' := Bel.box x1 C0.out; have a0' := Bel.box x1 A0.out; have a1' := Bel.box x1 A1.out; have a2' := Bel.box x1 A2.out; have a3' := Bel.box x1 A3.out; have HG := hide (l4Read_any (HH.out.keep x1) hl st (HS.out.below x1) (HT.out.below x1) off HV.out); have X1 := hide (Bel.tr X0.out.bl x1); clear x1) | (go_at_call 34; refine HG.out.mono ?_; intro e w2 hok; obtain ⟨sa2, cap2, rfl, hok2⟩ := hok))
    go_ret
    rw [HR.out]
    exact CellsOk.from X1.out ⟨sa2, cap2, rfl, hok2⟩
  · have hb : (vHeap ss && (dcGoodA ss st xs sv off)) = false := by
      cases h1 : vHeap ss with
      | false => rfl
      | true => rw [Bool.true_and]; exact decide_eq_false (fun q => hV ⟨h1, q⟩)
    rw [hb] at hva
    have HR := hide (readA_no hV)
    clear hV hb
    go_enter Try.func16, Try.ntmps16
    go_wp2_with (go_at_call 12; rw [HW0.out]; refine hva.out.mono ?_; rintro e w1 ⟨rfl, x1⟩)
    go_ret
    exact cells_nil HR.out _ _ (Bel.tr X0.out.bl (Bel.tr x1 ((Ext.refl w1).alloc _ _).bl))

set_option maxRecDepth 100000 in
set_option maxHeartbeats 2000000 in
theorem iRd_any {w : World} {v vS vT : Value} {ss : List St} {xs sv : List Int} (h : SV w v ss) (hg : SG ss) (hl : SL ss 1048576) (st : Int) (hS : Ints w vS xs) (hT : Ints w vT sv) (off : Int) (lx : xs.length ≤ 1048576) (ls : sv.length ≤ 1048576) :
    Calls Try.prog 17 #[.agg #[v], .agg #[.int .i64 st, vS, vT, .int .i64 off]] w fun e w' => CellsOk w (readA ss st xs sv off) e w' := by
  obtain ⟨sa, cap, rfl, hx⟩ := h
  have h : SV w (.slice sa ss.length cap) ss := ⟨sa, cap, rfl, hx⟩
  have x0 : Ext w (((w.alloc (.cells #[.slice sa ss.length cap] 29)).alloc (.cells #[.int .i64 st, vS, vT, .int .i64 off] 42)).alloc (.cells #[.int .i64 st, vS, vT, .int .i64 off] 42)) := (((Ext.refl w).alloc _ _).alloc _ _).alloc _ _
  have n3 := fun j => new_cell ((w.alloc (.cells #[.slice sa ss.length cap] 29)).alloc (.cells #[.int .i64 st, vS, vT, .int .i64 off] 42)) #[.int .i64 st, vS, vT, .int .i64 off] 42 (w.heap.size + 1 + 1) (by simp) j
  have ho := hide (open_any (ga := w.heap.size + 1 + 1) (oa := 0) (h.keep x0.bl) hg hl st (hS.ext x0) (hT.ext x0) off lx ls (n3 0) (n3 1) (n3 2) (n3 3))
  have X0 := hide x0
  clear hx h x0 n3
  obtain ⟨s1, d1, rfl, _⟩ := hS
  obtain ⟨s2, d2, rfl, _⟩ := hT
  go_enter Try.func17, Try.ntmps17
  go_wp2_with fail
  refine ho.out.mono ?_
  rintro e w1 ⟨v1, rfl, x1, hv⟩
  have X1 := hide (Bel.tr X0.out.bl x1)
  clear ho X0 x1
  rcases hv with ⟨hne, rfl⟩ | ⟨he, g, gcap, u, rfl, hcv, hcell⟩
  · have HR : Hid (readA ss st xs sv off = []) := readA_no (fun q => hne (by unfold openL; rw [if_pos q.1, if_pos q.2]))
    generalize openL ss st xs sv off = C at hne ⊢
    have hne' : (C == 0) = false := by simp [hne]
    have hne2 : (C != 0) = true := by simp [hne]
    go_wp2
    go_ret
    exact cells_nil HR.out _ _ (Bel.tr X1.out ((Ext.refl w1).alloc _ _).bl)
  · have hV : vHeap ss = true ∧ GoodA ss st xs sv off := by
      unfold openL at he
      by_cases h1 : vHeap ss = true
      · rw [if_pos h1] at he
        by_cases h2 : GoodA ss st xs sv off
        · exact ⟨h1, h2⟩
        · rw [if_neg h2] at he; omega
      · rw [if_neg h1] at he; omega
    have HR := hide (readA_yes hV.1 hV.2)
    rw [he]
    obtain ⟨su, cu, rfl, hcx⟩ := hcv
    have hlc := hl.at st.toNat (by have := hV.2.1; omega)
    have Hrd := hide (callsIn_wide.1 (read_in 3 (Nat.le_refl _) xs sv off st (ss.getD st.toNat s0).1 (w := w1) (su := su) (cu := cu) (cs := (ss.getD st.toNat s0).2) ⟨su, cu, rfl, hcx⟩ hlc hV.2.2.1 hV.2.2.2))
    have f0 := hcell 0 _ rfl
    have f1 := hcell 1 _ rfl
    have f2 := hcell 2 _ rfl
    have f3 := hcell 3 _ rfl
    have f4 := hcell 4 _ rfl
    have f5 := hcell 5 _ rfl
    have f6 := hcell 6 _ rfl
    have f7 := hcell 7 _ rfl
    have f8 := hcell 8 _ rfl
    have f9 := hcell 9 _ rfl
    have f10 := hcell 10 _ rfl
    have f11 := hcell 11 _ rfl
    have f12 := hcell 12 _ rfl
    clear hcell hV he hcx
    have HL : Hid (readL ss st xs sv off = (offsL xs sv off).map fun p => (ss.getD st.toNat s0).2.getD p.toNat k0) := rfl
    generalize (ss.getD st.toNat s0).1 = DT at *
    generalize (ss.getD st.toNat s0).2 = cs at *
    generalize xs.getD 0 0 = a0 at *
    generalize xs.getD 1 0 = a1 at *
    generalize xs.getD 2 0 = a2 at *
    generalize xs.getD 3 0 = a3 at *
    generalize sv.getD 0 0 = b0 at *
    generalize sv.getD 1 0 = b1 at *
    generalize sv.getD 2 0 = b2 at *
    generalize sv.getD 3 0 = b3 at *
    go_wp2_with fail
    refine Hrd.out.mono ?_
    intro e w2 hok
    obtain ⟨sa2, cap2, rfl, hok2⟩ := hok
    go_wp2
    go_ret
    rw [HR.out, HL.out]
    exact CellsOk.from X1.out ⟨sa2, cap2, by rw [List.length_map]; rfl, hok2⟩
end Go.Proofs.Ytbkdfhlbjaiahaa
namespace Go.Proofs.Ytbkdfhlbjaiahaa
open Go.ChangeShapes Go.RowKit FL
set_option linter.unusedSimpArgs false
set_option linter.unusedVariables false
theorem OwnC.cv {w : World} {lo cap : Nat} {sa : Option Addr} {cs : List C3} (h : OwnC w lo sa cs) : CV w (.slice sa cs.length cap) cs := by
  refine ⟨sa, cap, rfl, ?_⟩
  rcases h with h | ⟨g, h1, h2, h3, _⟩
  · exact Or.inl h
  · exact Or.inr ⟨g, 0, h1, h3⟩
theorem OwnC.keep {w w' : World} {lo : Nat} {sa : Option Addr} {cs : List C3} (h : OwnC w lo sa cs) (x : Bel w w') : OwnC w' lo sa cs := by
  by_cases e : cs = []
  · exact Or.inl e
  · rcases h with h | ⟨g, h1, h2, h3, h4⟩
    · exact absurd h e
    · have hg := cell_lt (h3 0 (List.length_pos_iff.2 e)).1
      exact Or.inr ⟨g, h1, h2, h3.keep x, fun o => (Below.frozen x (p := ⟨g, o, none⟩) hg).trans (h4 o)⟩
theorem OwnC.mIn {w w' : World} {lo a b : Nat} {sa : Option Addr} {cs : List C3} (h : OwnC w lo sa cs) (x : MIn a b w w') (hb : b ≤ lo) : OwnC w' lo sa cs := by
  rcases h with h | ⟨g, h1, h2, h3, h4⟩
  · exact Or.inl h
  · exact Or.inr ⟨g, h1, h2, fun j hj => ⟨x.box _ _ _ (by omega) (h3 j hj).1, x.box _ _ _ (by omega) (h3 j hj).2.1, x.box _ _ _ (by omega) (h3 j hj).2.2⟩, fun o => (x.fz _).trans (h4 o)⟩
theorem Bel.mIn {w w1 w2 : World} {a b : Nat} (x : Bel w w1) (y : MIn a b w1 w2) (h : w.heap.size ≤ a) : Bel w w2 := Below.trans x (Below.mono y.bl h)
theorem readA_len (ss : List St) (st : Int) (xs sv : List Int) (off : Int) : (readA ss st xs sv off).length ≤ 1048576 := by
  unfold readA
  split
  · next h =>
    unfold readL
    rw [List.length_map]
    have := offs_len h.2.2.1
    omega
  · simp
theorem readA_good {ss : List St} (hg : SG ss) (st : Int) (xs sv : List Int) (off : Int) : CG (readA ss st xs sv off) := fun c hc => by
  unfold readA at hc
  split at hc
  · next h =>
    unfold readL at hc
    obtain ⟨p, hp, rfl⟩ := List.mem_map.1 hc
    have h1 := (offs_in h.2.2.1 p hp).1
    have h2 := h.2.2.2 p hp
    have h3 := h.2.1
    exact (hg.at st.toNat (by omega)).at p.toNat (by omega)
  · cases hc
theorem markG_any {w : World} {lo cap : Nat} {sa : Option Addr} {cs : List C3} (h : OwnC w lo sa cs) (hl : cs.length ≤ 1048576) (hlo : lo ≤ w.heap.size) :
    Calls Try.prog 21 #[.slice sa cs.length cap, .int .i64 1] w fun e w' => e = .returned (.int .i64 (1 + 3 * cs.length)) ∧ CV w' (.slice sa cs.length cap) (ccount cs.length 1) ∧ Below lo w w' := by
  rcases h with rfl | ⟨g, rfl, h2, h3, h4⟩
  · refine (markC_nil 1).mono ?_
    rintro e w' ⟨rfl, rfl⟩
    exact ⟨rfl, ⟨sa, cap, rfl, Or.inl rfl⟩, Below.refl _ _⟩
  · refine (markC_any h3.ex h4 1 (by omega) hl).mono ?_
    rintro e w' ⟨rfl, hr, hm, _⟩
    exact ⟨rfl, ⟨_, cap, by rw [ccount_len], Or.inr ⟨g, 0, rfl, hr⟩⟩, ⟨hm.os, hm.tape, hm.output, hm.size, fun k hk => hm.block k (by omega) (by omega)⟩⟩
end Go.Proofs.Ytbkdfhlbjaiahaa
namespace Go.Proofs.Ytbkdfhlbjaiahaa
open Go.ChangeShapes Go.RowKit FL
set_option linter.unusedSimpArgs false
set_option linter.unusedVariables false
theorem MIn.lower {a b hi : Nat} {w w' : World} (x : MIn b hi w w') (h : a ≤ b) : MIn a hi w w' := ⟨Below.mono x.bl h, fun k o v hk hc => x.box k o v (by omega) hc, x.fz⟩
set_option maxRecDepth 100000 in
set_option maxHeartbeats 1000000 in
theorem markS_nil {w : World} {sa : Option Addr} {cap : Nat} (k : Int) :
    Calls Try.prog 37 #[.slice sa 0 cap, .int .i64 k] w fun e w' => e = .returned (.int .i64 k) ∧ w' = w := by
  go_enter Try.func37, Try.ntmps37
  go_wp2
  go_loopw [1, 5] (fun m i wr => i = .int .i64 0 ∧ m = .int .i64 k ∧ wr = w) (fun m i _ => 0)
  case atStart => exact ⟨rfl, rfl, rfl⟩
  case round =>
    obtain ⟨rfl, rfl, rfl⟩ := hrel
    go_wp2
    go_ret
    exact ⟨rfl, rfl⟩
set_option maxRecDepth 100000 in
set_option maxHeartbeats 1000000 in
theorem markHeap_two {w : World} {a hi b cap : Nat} {ss : List St} (h : WRow w (b + 1) hi b 0 ss) (ha : a ≤ b) (haw : a ≤ w.heap.size) (hh : hi ≤ w.heap.size) (hbh : ss = [] ∨ b < hi) (hf : ∀ c o, b ≤ c → c < hi → w.frozen? ⟨c, o, none⟩ = false) (hl : SL ss 1048576) :
    Calls Try.prog 19 #[.agg #[.slice (some ⟨b, 0, none⟩) ss.length cap], .int .i64 1] w fun e w' => (∃ r : Int, e = .returned (.int .i64 r) ∧ 0 ≤ r ∧ r ≤ 10000000000000) ∧ MIn a hi w w' := by
  rcases hbh with rfl | hbh
  · have X0 := hide (((Ext.refl w).alloc #[.slice (some ⟨b, 0, none⟩) (0 : Nat) cap] 29).mIn (lo := a) (hi := hi) haw)
    clear h hf hl
    show Calls Try.prog 19 #[.agg #[.slice (some ⟨b, 0, none⟩) 0 cap], .int .i64 1] w _
    go_enter Try.func19, Try.ntmps19
    go_wp2_with (go_at_call 37; refine (markS_nil 1).mono ?_; rintro e w2 ⟨rfl, rfl⟩)
    go_ret
    exact ⟨⟨1, rfl, by omega, by omega⟩, X0.out⟩
  · refine (markHeap_any h (by omega) hh hbh hf hl).mono ?_
    rintro e w' ⟨h1, h2⟩
    exact ⟨h1, h2.lower ha⟩
end Go.Proofs.Ytbkdfhlbjaiahaa
namespace Go.Proofs.Ytbkdfhlbjaiahaa
open Go.ChangeShapes Go.RowKit FL
set_option linter.unusedSimpArgs false
set_option linter.unusedVariables false

set_option maxRecDepth 100000 in
set_option maxHeartbeats 4000000 in
theorem lawRd (w : World) (v vS vT : Value) (ss : List St) (st : Int) (xs sv : List Int) (off : Int) (hX : SV w v ss) (hb : SB ss) (hg : SG ss) (hS : Ints w vS xs) (hT : Ints w vT sv) (lx0 : xs.length ≤ 9223372036854775807) (ls0 : sv.length ≤ 9223372036854775807) :
    Calls Try.prog 5 #[.agg #[v], .agg #[.int .i64 st, vS, vT, .int .i64 off]] w fun e w' => LawOk w e w' := by
  obtain ⟨sa, cap, rfl, hx⟩ := hX
  have hX : SV w (.slice sa ss.length cap) ss := ⟨sa, cap, rfl, hx⟩
  obtain ⟨s1, d1, rfl, hs1⟩ := hS
  obtain ⟨s2, d2, rfl, hs2⟩ := hT
  have A0 := hide (AB.start st off hX ⟨s1, d1, rfl, hs1⟩ ⟨s2, d2, rfl, hs2⟩)
  have HS := hide (szHeap_any A0.out.h hb 1048576 (by omega))
  clear hx hX hs1 hs2
  go_enter Try.func5, Try.ntmps5
  go_wp2_with fail
  refine HS.out.mono ?_
  rintro e w1 ⟨⟨r, rfl, hr⟩, x1⟩
  have A1 := hide (A0.out.keep x1.bl)
  clear x1 HS A0
  have c0 := A1.out.c0
  have a0 := A1.out.a0
  have a1 := A1.out.a1
  have a2 := A1.out.a2
  have a3 := A1.out.a3
  rcases hr with hr | ⟨h1, h2, hl⟩
  · go_wp2
    go_ret
    exact ⟨rfl, A1.out.bl⟩
  have hr : ¬ r < 0 := by omega
  have HL := hide hl
  have HG := hide hg
  clear hl hg hb
  go_wp2_with fail
  refine (szArray_any st s1 s2 xs.length d1 sv.length d2 off r ⟨h1, by omega⟩ lx0 ls0 _).mono ?_
  rintro e w2 ⟨⟨r2, rfl, hr2⟩, x2⟩
  have A2 := hide (A1.out.keep x2.bl)
  clear x2 A1 c0 a0 a1 a2 a3
  have c0 := A2.out.c0
  have a0 := A2.out.a0
  have a1 := A2.out.a1
  have a2 := A2.out.a2
  have a3 := A2.out.a3
  rcases hr2 with hr2 | ⟨h3, lx, ls⟩
  · go_wp2
    go_ret
    exact ⟨rfl, A2.out.bl⟩
  have hr2 : ¬ r2 < 0 := by omega
  clear lx0 ls0
  have SA : Hid ((fun w' => w'.cell? ⟨w.heap.size, 0, none⟩ = some (.slice sa ss.length cap) ∧ w'.cell? ⟨w.heap.size + 1, 0, none⟩ = some (.int .i64 st) ∧ w'.cell? ⟨w.heap.size + 1, 1, none⟩ = some (.slice s1 xs.length d1) ∧ w'.cell? ⟨w.heap.size + 1, 2, none⟩ = some (.slice s2 sv.length d2) ∧ w'.cell? ⟨w.heap.size + 1, 3, none⟩ = some (.int .i64 off)) w2.drew) := ⟨c0, a0, a1, a2, a3⟩
  have Ad := hide (A2.out.keep (Ext.refl w2).drew.bl)
  go_wp2_with fail
  go_region_held3 (fun w' => w'.cell? ⟨w.heap.size, 0, none⟩ = some (.slice sa ss.length cap) ∧ w'.cell? ⟨w.heap.size + 1, 0, none⟩ = some (.int .i64 st) ∧ w'.cell? ⟨w.heap.size + 1, 1, none⟩ = some (.slice s1 xs.length d1) ∧ w'.cell? ⟨w.heap.size + 1, 2, none⟩ = some (.slice s2 sv.length d2) ∧ w'.cell? ⟨w.heap.size + 1, 3, none⟩ = some (.int .i64 off)) (first | with_reducible exact SA.out | with_reducible exact SB'.out | with_reducible exact SC'.out | with_reducible exact SD'.out | exact SA.out | exact SB'.out | exact SC'.out | exact SD'.out | fail) (first | (go_at_call 16; refine (sRd_any H4.out HG.out HL.out st X4.out Y4.out off lx ls).mono ?_; intro e w5 hok5; obtain ⟨z5, q5, rfl, ho5, x5⟩ := hok5; have C5 := hide (ho5.cv (cap := q5)); have A5 := hide (A4.out.keep x5); have SD' : Hid ((fun w' => w'.cell? ⟨w.heap.size, 0, none⟩ = some (.slice sa ss.length cap) ∧ w'.cell? ⟨w.heap.size + 1, 0, none⟩ = some (.int .i64 st) ∧ w'.cell? ⟨w.heap.size + 1, 1, none⟩ = some (.slice s1 xs.length d1) ∧ w'.cell? ⟨w.heap.size + 1, 2, none⟩ = some (.slice s2 sv.length d2) ∧ w'.cell? ⟨w.heap.size + 1, 3, none⟩ = some (.int .i64 off)) w5) := ⟨A5.out.c0, A5.out.a0, A5.out.a1, A5.out.a2, A5.out.a3⟩; clear x5 ho5) | (go_at_call 13; refine (toArray_any st A3.out.x A3.out.s off lx ls).mono ?_; rintro e w4 ⟨b4, c4, rfl, _, _, _, rx, rs, x4⟩; have A4 := hide (A3.out.keep x4.bl); have H4 := hide (H3.out.keep x4.bl); have X4 := hide (rx.ints (n := xs.length) (cap := xs.length) rfl); have Y4 := hide (rs.ints (n := sv.length) (cap := sv.length) rfl); have SC' : Hid ((fun w' => w'.cell? ⟨w.heap.size, 0, none⟩ = some (.slice sa ss.length cap) ∧ w'.cell? ⟨w.heap.size + 1, 0, none⟩ = some (.int .i64 st) ∧ w'.cell? ⟨w.heap.size + 1, 1, none⟩ = some (.slice s1 xs.length d1) ∧ w'.cell? ⟨w.heap.size + 1, 2, none⟩ = some (.slice s2 sv.length d2) ∧ w'.cell? ⟨w.heap.size + 1, 3, none⟩ = some (.int .i64 off)) w4) := ⟨A4.out.c0, A4.out.a0, A4.out.a1, A4.out.a2, A4.out.a3⟩; clear x4 rx rs) | (go_at_call 8; refine (toHeap_any Ad.out.h HL.out).mono ?_; rintro e w3 ⟨g3, rfl, _, rp, x3⟩; have A3 := hide (Ad.out.keep x3.bl); have H3 := hide (rp.sv (n := ss.length) (cap := ss.length) rfl); have SB' : Hid ((fun w' => w'.cell? ⟨w.heap.size, 0, none⟩ = some (.slice sa ss.length cap) ∧ w'.cell? ⟨w.heap.size + 1, 0, none⟩ = some (.int .i64 st) ∧ w'.cell? ⟨w.heap.size + 1, 1, none⟩ = some (.slice s1 xs.length d1) ∧ w'.cell? ⟨w.heap.size + 1, 2, none⟩ = some (.slice s2 sv.length d2) ∧ w'.cell? ⟨w.heap.size + 1, 3, none⟩ = some (.int .i64 off)) w3) := ⟨A3.out.c0, A3.out.a0, A3.out.a1, A3.out.a2, A3.out.a3⟩; clear rp x3) | fail)
  clear SA Ad A2 A3 A4 H3 H4 X4 Y4 c0 a0 a1 a2 a3 SB' SC' SD'
  have c0 := A5.out.c0
  have a0 := A5.out.a0
  have a1 := A5.out.a1
  have a2 := A5.out.a2
  have a3 := A5.out.a3
  go_wp2_with fail
  refine (toHeap_any A5.out.h HL.out).mono ?_
  rintro e w6 ⟨g6, rfl, hg6, rp, x6⟩
  have A6 := hide (A5.out.keep x6.bl)
  have H6 := hide (rp.sv (n := ss.length) (cap := ss.length) rfl)
  have W6r := hide rp.wrow
  have F6 : Hid (∀ c o, g6 ≤ c → c < w6.heap.size → w6.frozen? ⟨c, o, none⟩ = false) := fun c o hc _ => x6.unfrozen (by omega) o
  have B56 := hide x6.bl
  have hg6s : ss = [] ∨ g6 < w6.heap.size := by
    by_cases e : ss = []
    · exact Or.inl e
    · exact Or.inr (cell_lt (rp 0 (List.length_pos_iff.2 e)).1)
  have Hg6 := hide hg6
  have Hg6s := hide hg6s
  clear rp x6 c0 a0 a1 a2 a3 hg6 hg6s
  have xb : Ext w6 (w6.alloc (.cells #[.slice (some ⟨g6, 0, none⟩) ss.length ss.length] 29)) := (Ext.refl w6).alloc _ _
  have nb : (w6.alloc (.cells #[.slice (some ⟨g6, 0, none⟩) ss.length ss.length] 29)).cell? ⟨w6.heap.size, 0, none⟩ = some (.slice (some ⟨g6, 0, none⟩) ss.length ss.length) := new_cell w6 _ 29 _ rfl 0
  have A6b := hide (A6.out.keep xb.bl)
  have H6b := hide (H6.out.keep xb.bl)
  have N6 := hide nb
  have B66 := hide xb.bl
  have hsW6 : (w6.alloc (.cells #[.slice (some ⟨g6, 0, none⟩) ss.length ss.length] 29)).heap.size = w6.heap.size + 1 := by simp
  have HsW6 := hide hsW6
  clear xb nb A6 H6 hsW6
  have c0 := A6b.out.c0
  have a0 := A6b.out.a0
  have a1 := A6b.out.a1
  have a2 := A6b.out.a2
  have a3 := A6b.out.a3
  go_wp2_with fail
  generalize w6.alloc (.cells #[.slice (some ⟨g6, 0, none⟩) ss.length ss.length] 29) = W6 at A6b H6b N6 c0 a0 a1 a2 a3 B66 HsW6 ⊢
  generalize hB6 : w6.heap.size = B6 at N6 HsW6 ⊢
  have HB6 := hide hB6
  clear hB6
  refine (toArray_any st A6b.out.x A6b.out.s off lx ls).mono ?_
  rintro e w7 ⟨b7, c7, rfl, hb7, hbc7, hc7, rx, rs, x7⟩
  have R7 := hide rx
  have S7 := hide rs
  have F7 : Hid (∀ d o, b7 ≤ d → d ≤ c7 → w7.frozen? ⟨d, o, none⟩ = false) := fun d o hd _ => x7.unfrozen (by omega) o
  have B67 := hide (Bel.tr B66.out x7.bl)
  have Hb7 : Hid (W6.heap.size ≤ b7 ∧ b7 < c7 ∧ c7 < w7.heap.size) := ⟨hb7, hbc7, hc7⟩
  clear hb7 hbc7 hc7
  have A7 := hide (A6b.out.keep x7.bl)
  have H7 := hide (H6b.out.keep x7.bl)
  have N7 := hide (x7.box N6.out)
  have X7 := hide (rx.ints (n := xs.length) (cap := xs.length) rfl)
  have Y7 := hide (rs.ints (n := sv.length) (cap := sv.length) rfl)
  clear x7 rx rs A6b H6b N6 c0 a0 a1 a2 a3
  have xb : Ext w7 (w7.alloc (.cells #[.int .i64 st, .slice (some ⟨b7, 0, none⟩) xs.length xs.length, .slice (some ⟨c7, 0, none⟩) sv.length sv.length, .int .i64 off] 42)) := (Ext.refl w7).alloc _ _
  have nb := fun j => new_cell w7 #[.int .i64 st, .slice (some ⟨b7, 0, none⟩) xs.length xs.length, .slice (some ⟨c7, 0, none⟩) sv.length sv.length, .int .i64 off] 42 w7.heap.size rfl j
  have A7b := hide (A7.out.keep xb.bl)
  have H7b := hide (H7.out.keep xb.bl)
  have X7b := hide (X7.out.below xb.bl)
  have Y7b := hide (Y7.out.below xb.bl)
  have M0 : (w7.alloc (.cells #[.int .i64 st, .slice (some ⟨b7, 0, none⟩) xs.length xs.length, .slice (some ⟨c7, 0, none⟩) sv.length sv.length, .int .i64 off] 42)).cell? ⟨w7.heap.size, 0, none⟩ = some (.int .i64 st) := nb 0
  have M1 : (w7.alloc (.cells #[.int .i64 st, .slice (some ⟨b7, 0, none⟩) xs.length xs.length, .slice (some ⟨c7, 0, none⟩) sv.length sv.length, .int .i64 off] 42)).cell? ⟨w7.heap.size, 1, none⟩ = some (.slice (some ⟨b7, 0, none⟩) xs.length xs.length) := nb 1
  have M2 : (w7.alloc (.cells #[.int .i64 st, .slice (some ⟨b7, 0, none⟩) xs.length xs.length, .slice (some ⟨c7, 0, none⟩) sv.length sv.length, .int .i64 off] 42)).cell? ⟨w7.heap.size, 2, none⟩ = some (.slice (some ⟨c7, 0, none⟩) sv.length sv.length) := nb 2
  have M3 : (w7.alloc (.cells #[.int .i64 st, .slice (some ⟨b7, 0, none⟩) xs.length xs.length, .slice (some ⟨c7, 0, none⟩) sv.length sv.length, .int .i64 off] 42)).cell? ⟨w7.heap.size, 3, none⟩ = some (.int .i64 off) := nb 3
  have n7 := xb.box N7.out
  have B77 := hide xb.bl
  have HsW7 : Hid ((w7.alloc (.cells #[.int .i64 st, .slice (some ⟨b7, 0, none⟩) xs.length xs.length, .slice (some ⟨c7, 0, none⟩) sv.length sv.length, .int .i64 off] 42)).heap.size = w7.heap.size + 1) := by show (World.alloc _ _).heap.size = _; simp
  clear xb nb A7 H7 X7 Y7 N7
  go_wp2_with fail
  generalize w7.alloc (.cells #[.int .i64 st, .slice (some ⟨b7, 0, none⟩) xs.length xs.length, .slice (some ⟨c7, 0, none⟩) sv.length sv.length, .int .i64 off] 42) = W7 at A7b H7b X7b Y7b M0 M1 M2 M3 n7 B77 HsW7 ⊢
  generalize hB7 : w7.heap.size = B7 at M0 M1 M2 M3 HsW7 Hb7 ⊢
  have HB7 := hide hB7
  clear hB7
  refine (iRd_any H7b.out HG.out HL.out st X7b.out Y7b.out off lx ls).mono ?_
  intro e w7r hok8
  obtain ⟨z8, q8, rfl, ho8, x7r⟩ := hok8
  have B5W7 := hide (Bel.tr (Bel.tr B56.out B67.out) B77.out)
  have Lg := hide (readA_good HG.out st xs sv off)
  have Ll := readA_len ss st xs sv off
  have G7 := hide ho8
  have C7 := hide (C5.out.keep (Bel.tr B5W7.out x7r))
  have X7r := hide x7r
  clear ho8 x7r
  generalize hLL : readA ss st xs sv off = LL at Lg Ll G7 C7 C5 ⊢
  have HLL := hide hLL
  clear hLL
  go_wp2_with fail
  refine (eqCells_same (G7.out.cv (cap := q8)) C7.out Lg.out Ll).mono ?_
  rintro e w8 ⟨rfl, xe⟩
  have x8 : Bel W7 w8 := Bel.tr X7r.out xe.bl
  have G8 := hide (G7.out.keep xe.bl)
  have B78 := hide x8
  clear xe G7 C7 X7r
  have A8 := hide (A7b.out.keep x8)
  have H8 := hide (H7b.out.keep x8)
  have X8 := hide (X7b.out.below x8)
  have Y8 := hide (Y7b.out.below x8)
  have m0 := Bel.box x8 M0
  have m1 := Bel.box x8 M1
  have m2 := Bel.box x8 M2
  have m3 := Bel.box x8 M3
  have n8 := Bel.box x8 n7
  clear x8 A7b H7b X7b Y7b M0 M1 M2 M3 n7
  have c0 := A8.out.c0
  have Ad := hide (A8.out.keep (Ext.refl w8).drew.bl)
  have Hd := hide (H8.out.keep (Ext.refl w8).drew.bl)
  have SA : Hid ((fun w' => w'.cell? ⟨B6, 0, none⟩ = some (.slice (some ⟨g6, 0, none⟩) ss.length ss.length) ∧ w'.cell? ⟨w.heap.size, 0, none⟩ = some (.slice sa ss.length cap)) w8.drew) := ⟨n8, c0⟩
  have XYM : Hid (Ints w8.drew (.slice (some ⟨b7, 0, none⟩) xs.length xs.length) xs ∧ Ints w8.drew (.slice (some ⟨c7, 0, none⟩) sv.length sv.length) sv) := ⟨X8.out.below (Ext.refl w8).drew.bl, Y8.out.below (Ext.refl w8).drew.bl⟩
  have MM : Hid (w8.drew.cell? ⟨B7, 0, none⟩ = some (.int .i64 st) ∧ w8.drew.cell? ⟨B7, 1, none⟩ = some (.slice (some ⟨b7, 0, none⟩) xs.length xs.length) ∧ w8.drew.cell? ⟨B7, 2, none⟩ = some (.slice (some ⟨c7, 0, none⟩) sv.length sv.length) ∧ w8.drew.cell? ⟨B7, 3, none⟩ = some (.int .i64 off)) := ⟨m0, m1, m2, m3⟩
  have N8 := hide n8
  clear X8 Y8 m0 m1 m2 m3 H8
  go_wp2_with fail
  go_region_held3 (fun w' => w'.cell? ⟨B6, 0, none⟩ = some (.slice (some ⟨g6, 0, none⟩) ss.length ss.length) ∧ w'.cell? ⟨w.heap.size, 0, none⟩ = some (.slice sa ss.length cap)) (first | with_reducible exact SA.out | with_reducible exact SB'.out | with_reducible exact SC'.out | exact SA.out | exact SB'.out | exact SC'.out | fail) (first | (go_at_call 10; refine (eqHeap_same H9.out K9.out HG.out HL.out).mono ?_; rintro e w10 ⟨rfl, x10⟩; have E10 := hide (Bel.tr E9.out x10.bl); have A10 := hide (A9.out.keep x10.bl); have XY10 : Hid (Ints w10 (.slice (some ⟨b7, 0, none⟩) xs.length xs.length) xs ∧ Ints w10 (.slice (some ⟨c7, 0, none⟩) sv.length sv.length) sv) := ⟨XY9.out.1.below x10.bl, XY9.out.2.below x10.bl⟩; have MM10 : Hid (w10.cell? ⟨B7, 0, none⟩ = some (.int .i64 st) ∧ w10.cell? ⟨B7, 1, none⟩ = some (.slice (some ⟨b7, 0, none⟩) xs.length xs.length) ∧ w10.cell? ⟨B7, 2, none⟩ = some (.slice (some ⟨c7, 0, none⟩) sv.length sv.length) ∧ w10.cell? ⟨B7, 3, none⟩ = some (.int .i64 off)) := ⟨x10.box MM9.out.1, x10.box MM9.out.2.1, x10.box MM9.out.2.2.1, x10.box MM9.out.2.2.2⟩; have SC' : Hid ((fun w' => w'.cell? ⟨B6, 0, none⟩ = some (.slice (some ⟨g6, 0, none⟩) ss.length ss.length) ∧ w'.cell? ⟨w.heap.size, 0, none⟩ = some (.slice sa ss.length cap)) w10) := ⟨x10.box SB'.out.1, x10.box SB'.out.2⟩; clear x10) | (go_at_call 8; refine (toHeap_any Ad.out.h HL.out).mono ?_; rintro e w9 ⟨g9, rfl, _, rp, x9⟩; have E9 := hide (Bel.tr (Ext.refl w8).drew.bl x9.bl); have A9 := hide (Ad.out.keep x9.bl); have H9 := hide (Hd.out.keep x9.bl); have K9 := hide (rp.sv (n := ss.length) (cap := ss.length) rfl); have XY9 : Hid (Ints w9 (.slice (some ⟨b7, 0, none⟩) xs.length xs.length) xs ∧ Ints w9 (.slice (some ⟨c7, 0, none⟩) sv.length sv.length) sv) := ⟨XYM.out.1.below x9.bl, XYM.out.2.below x9.bl⟩; have MM9 : Hid (w9.cell? ⟨B7, 0, none⟩ = some (.int .i64 st) ∧ w9.cell? ⟨B7, 1, none⟩ = some (.slice (some ⟨b7, 0, none⟩) xs.length xs.length) ∧ w9.cell? ⟨B7, 2, none⟩ = some (.slice (some ⟨c7, 0, none⟩) sv.length sv.length) ∧ w9.cell? ⟨B7, 3, none⟩ = some (.int .i64 off)) := ⟨x9.box MM.out.1, x9.box MM.out.2.1, x9.box MM.out.2.2.1, x9.box MM.out.2.2.2⟩; have SB' : Hid ((fun w' => w'.cell? ⟨B6, 0, none⟩ = some (.slice (some ⟨g6, 0, none⟩) ss.length ss.length) ∧ w'.cell? ⟨w.heap.size, 0, none⟩ = some (.slice sa ss.length cap)) w9) := ⟨x9.box SA.out.1, x9.box SA.out.2⟩; clear rp x9) | fail)
  have M8 : Hid (w8.cell? ⟨B7, 0, none⟩ = some (.int .i64 st) ∧ w8.cell? ⟨B7, 1, none⟩ = some (.slice (some ⟨b7, 0, none⟩) xs.length xs.length) ∧ w8.cell? ⟨B7, 2, none⟩ = some (.slice (some ⟨c7, 0, none⟩) sv.length sv.length) ∧ w8.cell? ⟨B7, 3, none⟩ = some (.int .i64 off)) := MM.out
  clear SA Ad Hd XYM MM A9 H9 K9 XY9 MM9 SB' n8 c0
  have Ad := hide (A10.out.keep (Ext.refl w10).drew.bl)
  have XYd : Hid (Ints w10.drew (.slice (some ⟨b7, 0, none⟩) xs.length xs.length) xs ∧ Ints w10.drew (.slice (some ⟨c7, 0, none⟩) sv.length sv.length) sv) := ⟨XY10.out.1.below (Ext.refl w10).drew.bl, XY10.out.2.below (Ext.refl w10).drew.bl⟩
  have SA : Hid ((fun w' => w'.cell? ⟨B7, 0, none⟩ = some (.int .i64 st) ∧ w'.cell? ⟨B7, 1, none⟩ = some (.slice (some ⟨b7, 0, none⟩) xs.length xs.length) ∧ w'.cell? ⟨B7, 2, none⟩ = some (.slice (some ⟨c7, 0, none⟩) sv.length sv.length) ∧ w'.cell? ⟨B7, 3, none⟩ = some (.int .i64 off) ∧ w'.cell? ⟨w.heap.size + 1, 0, none⟩ = some (.int .i64 st) ∧ w'.cell? ⟨w.heap.size + 1, 1, none⟩ = some (.slice s1 xs.length d1) ∧ w'.cell? ⟨w.heap.size + 1, 2, none⟩ = some (.slice s2 sv.length d2) ∧ w'.cell? ⟨w.heap.size + 1, 3, none⟩ = some (.int .i64 off)) w10.drew) := ⟨MM10.out.1, MM10.out.2.1, MM10.out.2.2.1, MM10.out.2.2.2, A10.out.a0, A10.out.a1, A10.out.a2, A10.out.a3⟩
  clear SC'
  go_wp2_with fail
  go_region_held3 (fun w' => w'.cell? ⟨B7, 0, none⟩ = some (.int .i64 st) ∧ w'.cell? ⟨B7, 1, none⟩ = some (.slice (some ⟨b7, 0, none⟩) xs.length xs.length) ∧ w'.cell? ⟨B7, 2, none⟩ = some (.slice (some ⟨c7, 0, none⟩) sv.length sv.length) ∧ w'.cell? ⟨B7, 3, none⟩ = some (.int .i64 off) ∧ w'.cell? ⟨w.heap.size + 1, 0, none⟩ = some (.int .i64 st) ∧ w'.cell? ⟨w.heap.size + 1, 1, none⟩ = some (.slice s1 xs.length d1) ∧ w'.cell? ⟨w.heap.size + 1, 2, none⟩ = some (.slice s2 sv.length d2) ∧ w'.cell? ⟨w.heap.size + 1, 3, none⟩ = some (.int .i64 off)) (first | with_reducible exact SA.out | with_reducible exact SB'.out | with_reducible exact SC'.out | exact SA.out | exact SB'.out | exact SC'.out | fail) (first | (go_at_call 15; refine (eqArray_true st off XY11.out.1 XY11.out.2 P11.out Q11.out lx ls).mono ?_; rintro e w12 ⟨rfl, x12⟩; have E12 := hide (Bel.tr E11.out x12.bl); have A12 := hide (A11.out.keep x12.bl); have SC' : Hid ((fun w' => w'.cell? ⟨B7, 0, none⟩ = some (.int .i64 st) ∧ w'.cell? ⟨B7, 1, none⟩ = some (.slice (some ⟨b7, 0, none⟩) xs.length xs.length) ∧ w'.cell? ⟨B7, 2, none⟩ = some (.slice (some ⟨c7, 0, none⟩) sv.length sv.length) ∧ w'.cell? ⟨B7, 3, none⟩ = some (.int .i64 off) ∧ w'.cell? ⟨w.heap.size + 1, 0, none⟩ = some (.int .i64 st) ∧ w'.cell? ⟨w.heap.size + 1, 1, none⟩ = some (.slice s1 xs.length d1) ∧ w'.cell? ⟨w.heap.size + 1, 2, none⟩ = some (.slice s2 sv.length d2) ∧ w'.cell? ⟨w.heap.size + 1, 3, none⟩ = some (.int .i64 off)) w12) := ⟨x12.box SB'.out.1, x12.box SB'.out.2.1, x12.box SB'.out.2.2.1, x12.box SB'.out.2.2.2.1, A12.out.a0, A12.out.a1, A12.out.a2, A12.out.a3⟩; clear x12) | (go_at_call 13; refine (toArray_any st Ad.out.x Ad.out.s off lx ls).mono ?_; rintro e w11 ⟨b11, c11, rfl, _, _, _, rx, rs, x11⟩; have E11 := hide (Bel.tr E10.out (Bel.tr (Ext.refl w10).drew.bl x11.bl)); have A11 := hide (Ad.out.keep x11.bl); have P11 := hide (rx.ints (n := xs.length) (cap := xs.length) rfl); have Q11 := hide (rs.ints (n := sv.length) (cap := sv.length) rfl); have XY11 : Hid (Ints w11 (.slice (some ⟨b7, 0, none⟩) xs.length xs.length) xs ∧ Ints w11 (.slice (some ⟨c7, 0, none⟩) sv.length sv.length) sv) := ⟨XYd.out.1.below x11.bl, XYd.out.2.below x11.bl⟩; have SB' : Hid ((fun w' => w'.cell? ⟨B7, 0, none⟩ = some (.int .i64 st) ∧ w'.cell? ⟨B7, 1, none⟩ = some (.slice (some ⟨b7, 0, none⟩) xs.length xs.length) ∧ w'.cell? ⟨B7, 2, none⟩ = some (.slice (some ⟨c7, 0, none⟩) sv.length sv.length) ∧ w'.cell? ⟨B7, 3, none⟩ = some (.int .i64 off) ∧ w'.cell? ⟨w.heap.size + 1, 0, none⟩ = some (.int .i64 st) ∧ w'.cell? ⟨w.heap.size + 1, 1, none⟩ = some (.slice s1 xs.length d1) ∧ w'.cell? ⟨w.heap.size + 1, 2, none⟩ = some (.slice s2 sv.length d2) ∧ w'.cell? ⟨w.heap.size + 1, 3, none⟩ = some (.int .i64 off)) w11) := ⟨x11.box SA.out.1, x11.box SA.out.2.1, x11.box SA.out.2.2.1, x11.box SA.out.2.2.2.1, A11.out.a0, A11.out.a1, A11.out.a2, A11.out.a3⟩; clear rx rs x11) | fail)
  clear SA Ad XYd A11 P11 Q11 XY11 SB' SC' A10 XY10 A12 E9 E10 E11 MM10 A8
  have n12 := Bel.box E12.out N8.out
  have m0 := Bel.box E12.out M8.out.1
  have m1 := Bel.box E12.out M8.out.2.1
  have m2 := Bel.box E12.out M8.out.2.2.1
  have m3 := Bel.box E12.out M8.out.2.2.2
  have B712 := hide (Bel.tr B77.out (Bel.tr B78.out E12.out))
  have B6w := hide (Bel.tr B67.out B712.out)
  have B5w := hide (Bel.tr B56.out B6w.out)
  have z1 := Hg6.out
  have z2 := HB6.out
  have z3 := HsW6.out
  have z4 := Hb7.out
  have z5' := HB7.out
  have z6 := HsW7.out
  have z7 := Below.size B712.out
  have z8' := Below.size (Bel.tr B78.out E12.out)
  have z9 := Below.size B56.out
  have W12 := hide (W6r.out.step (fun b o v h => ⟨v, Bel.box B6w.out h⟩) (fun o v _ hc => Bel.box B6w.out hc))
  have F12 : Hid (∀ c o, g6 ≤ c → c < w6.heap.size → w12.frozen? ⟨c, o, none⟩ = false) := fun c o h1 h2 => (Below.frozen B6w.out (p := ⟨c, o, none⟩) h2).trans (F6.out c o h1 h2)
  have R12 : Hid (Row w12 b7 0 xs) := fun j hj => Bel.box B712.out (R7.out j hj)
  have S12 : Hid (Row w12 c7 0 sv) := fun j hj => Bel.box B712.out (S7.out j hj)
  have FF12 : Hid (∀ d o, b7 ≤ d → d ≤ c7 → w12.frozen? ⟨d, o, none⟩ = false) := fun d o h1 h2 => (Below.frozen B712.out (p := ⟨d, o, none⟩) (by show d < _; omega)).trans (F7.out d o h1 h2)
  have G12 := hide (G8.out.keep E12.out)
  go_wp2_with fail
  refine (markHeap_two (a := w5.heap.size) W12.out z1 (by omega) (by omega) Hg6s.out F12.out HL.out).mono ?_
  rintro e w13 ⟨⟨r13, rfl, h13a, h13b⟩, M13⟩
  have m0a := M13.box _ _ _ (Or.inr (by omega)) m0
  have m1a := M13.box _ _ _ (Or.inr (by omega)) m1
  have m2a := M13.box _ _ _ (Or.inr (by omega)) m2
  have m3a := M13.box _ _ _ (Or.inr (by omega)) m3
  have R13 : Hid (Row w13 b7 0 xs) := fun j hj => M13.box _ _ _ (Or.inr (by omega)) (R12.out j hj)
  have S13 : Hid (Row w13 c7 0 sv) := fun j hj => M13.box _ _ _ (Or.inr (by omega)) (S12.out j hj)
  have FF13 : Hid (∀ d o, b7 ≤ d → d ≤ c7 → w13.frozen? ⟨d, o, none⟩ = false) := fun d o h1 h2 => (M13.fz _).trans (FF12.out d o h1 h2)
  have B513 := hide (Bel.mIn B5w.out M13 (Nat.le_refl _))
  have G13 := hide (G12.out.mIn M13 (by omega))
  have z13 := Below.size M13.bl
  clear M13 m0 m1 m2 m3 n12 W12 F12 R12 S12 FF12 G12
  go_wp2_with fail
  refine (markArray_any st off R13.out S13.out (by omega) (by omega) FF13.out lx ls r13 ⟨h13a, h13b⟩).mono ?_
  rintro e w14 ⟨⟨r14, rfl, h14⟩, M14⟩
  have h14n : decide (r14 < 0) = false := decide_eq_false (by omega)
  have B514 := hide (Bel.mIn B513.out M14 (by omega))
  have G14 := hide (G13.out.mIn M14 (by omega))
  have C14 := hide (C5.out.keep B514.out)
  have z14 := Below.size M14.bl
  clear M14 m0a m1a m2a m3a R13 S13 FF13 G13 B513
  go_wp2_with fail
  refine (eqCells_same (G14.out.cv (cap := q8)) C14.out Lg.out Ll).mono ?_
  rintro e w15 ⟨rfl, x15⟩
  have G15 := hide (G14.out.keep x15.bl)
  have B515 := hide (Bel.tr B514.out x15.bl)
  have z15 := Below.size x15.bl
  clear x15 G14 C14 B514
  go_wp2_with fail
  refine (markG_any (cap := q8) G15.out Ll (by omega)).mono ?_
  rintro e w16 ⟨rfl, V16, y16⟩
  have HV16 := hide V16
  have B516 : Hid (Bel w5 w16) := Below.trans B515.out (Below.mono y16 (by omega))
  clear V16 y16 G15 B515
  go_wp2_with fail
  refine (heldC_any 1 HV16.out (by omega) Ll).mono ?_
  rintro e w17 ⟨rfl, x17⟩
  have A17 := hide (A5.out.keep (Bel.tr B516.out x17.bl))
  have B517 := hide (Bel.tr B516.out x17.bl)
  clear x17 HV16 B516
  have c0 := A17.out.c0
  have a0 := A17.out.a0
  have a1 := A17.out.a1
  have a2 := A17.out.a2
  have a3 := A17.out.a3
  have hq0 : decide (1 + 3 * (LL.length : Int) < 0) = false := decide_eq_false (by omega)
  have SA : Hid ((fun w' => w'.cell? ⟨w.heap.size, 0, none⟩ = some (.slice sa ss.length cap) ∧ w'.cell? ⟨w.heap.size + 1, 0, none⟩ = some (.int .i64 st) ∧ w'.cell? ⟨w.heap.size + 1, 1, none⟩ = some (.slice s1 xs.length d1) ∧ w'.cell? ⟨w.heap.size + 1, 2, none⟩ = some (.slice s2 sv.length d2) ∧ w'.cell? ⟨w.heap.size + 1, 3, none⟩ = some (.int .i64 off)) w17.drew) := ⟨c0, a0, a1, a2, a3⟩
  have Ad := hide (A17.out.keep (Ext.refl w17).drew.bl)
  go_wp2_with fail
  go_region_held3 (fun w' => w'.cell? ⟨w.heap.size, 0, none⟩ = some (.slice sa ss.length cap) ∧ w'.cell? ⟨w.heap.size + 1, 0, none⟩ = some (.int .i64 st) ∧ w'.cell? ⟨w.heap.size + 1, 1, none⟩ = some (.slice s1 xs.length d1) ∧ w'.cell? ⟨w.heap.size + 1, 2, none⟩ = some (.slice s2 sv.length d2) ∧ w'.cell? ⟨w.heap.size + 1, 3, none⟩ = some (.int .i64 off)) (first | with_reducible exact SA.out | with_reducible exact SB'.out | with_reducible exact SC'.out | with_reducible exact SD'.out | exact SA.out | exact SB'.out | exact SC'.out | exact SD'.out | fail) (first | (go_at_call 17; refine (iRd_any H19.out HG.out HL.out st X19.out Y19.out off lx ls).mono ?_; intro e w20 hok20; obtain ⟨z20, q20, rfl, ho20, x20⟩ := hok20; have C20 := hide (ho20.cv (cap := q20)); have A20 := hide (A19.out.keep x20); have E20 := hide (Bel.tr E19.out x20); have SD' : Hid ((fun w' => w'.cell? ⟨w.heap.size, 0, none⟩ = some (.slice sa ss.length cap) ∧ w'.cell? ⟨w.heap.size + 1, 0, none⟩ = some (.int .i64 st) ∧ w'.cell? ⟨w.heap.size + 1, 1, none⟩ = some (.slice s1 xs.length d1) ∧ w'.cell? ⟨w.heap.size + 1, 2, none⟩ = some (.slice s2 sv.length d2) ∧ w'.cell? ⟨w.heap.size + 1, 3, none⟩ = some (.int .i64 off)) w20) := ⟨A20.out.c0, A20.out.a0, A20.out.a1, A20.out.a2, A20.out.a3⟩; clear x20 ho20) | (go_at_call 13; refine (toArray_any st A18.out.x A18.out.s off lx ls).mono ?_; rintro e w19 ⟨b19, c19, rfl, _, _, _, rx, rs, x19⟩; have A19 := hide (A18.out.keep x19.bl); have H19 := hide (H18.out.keep x19.bl); have X19 := hide (rx.ints (n := xs.length) (cap := xs.length) rfl); have Y19 := hide (rs.ints (n := sv.length) (cap := sv.length) rfl); have E19 := hide (Bel.tr E18.out x19.bl); have SC' : Hid ((fun w' => w'.cell? ⟨w.heap.size, 0, none⟩ = some (.slice sa ss.length cap) ∧ w'.cell? ⟨w.heap.size + 1, 0, none⟩ = some (.int .i64 st) ∧ w'.cell? ⟨w.heap.size + 1, 1, none⟩ = some (.slice s1 xs.length d1) ∧ w'.cell? ⟨w.heap.size + 1, 2, none⟩ = some (.slice s2 sv.length d2) ∧ w'.cell? ⟨w.heap.size + 1, 3, none⟩ = some (.int .i64 off)) w19) := ⟨A19.out.c0, A19.out.a0, A19.out.a1, A19.out.a2, A19.out.a3⟩; clear x19 rx rs) | (go_at_call 8; refine (toHeap_any Ad.out.h HL.out).mono ?_; rintro e w18 ⟨g18, rfl, _, rp, x18⟩; have A18 := hide (Ad.out.keep x18.bl); have H18 := hide (rp.sv (n := ss.length) (cap := ss.length) rfl); have E18 := hide (Bel.tr (Ext.refl w17).drew.bl x18.bl); have SB' : Hid ((fun w' => w'.cell? ⟨w.heap.size, 0, none⟩ = some (.slice sa ss.length cap) ∧ w'.cell? ⟨w.heap.size + 1, 0, none⟩ = some (.int .i64 st) ∧ w'.cell? ⟨w.heap.size + 1, 1, none⟩ = some (.slice s1 xs.length d1) ∧ w'.cell? ⟨w.heap.size + 1, 2, none⟩ = some (.slice s2 sv.length d2) ∧ w'.cell? ⟨w.heap.size + 1, 3, none⟩ = some (.int .i64 off)) w18) := ⟨A18.out.c0, A18.out.a0, A18.out.a1, A18.out.a2, A18.out.a3⟩; clear rp x18) | fail)
  have C21 := hide (C5.out.keep (Bel.tr B517.out E20.out))
  rw [HLL.out] at C20 ⊢
  go_wp2_with (go_at_call 18; refine (eqCells_same C20.out C21.out Lg.out Ll).mono ?_; rintro e w21 ⟨rfl, x21⟩)
  go_ret
  exact ⟨rfl, Bel.tr A20.out.bl x21.bl⟩
end Go.Proofs.Ytbkdfhlbjaiahaa
