import Derived.Test.YtfhcpicddegblaaGreatM1
import Derived.Test.YtfhcpicddegblaaGreatM6
import Derived.Test.YtfhcpicddegblaaGreatM5
import Derived.RegionTactic
import Derived.Test.YtfhcpicddegblaaGreatM3
import Derived.Deep.RegionHeld3
set_option linter.unusedSimpArgs false
set_option linter.unusedVariables false
set_option maxRecDepth 100000
set_option maxHeartbeats 8000000
namespace Go.Proofs.YtfhcpicddegblaaGreat
open Go.Value renaming int → O, slice → σ, agg → γ
open Go.IntKind renaming i64 → ι
open Go.Obj renaming cells → χ
section
open Go.RowKit FL
theorem zo22 (x : Nat) : validB 8 0 x 0 = true := by
 have : pzB 0 = true := by decide
 simp [validB, this]
theorem zm16 (x : Nat) (w : World) :
  Calls Tryz.prog 112 #[O ι 8, .float .f64 x] w fun e w' => e = .returned (.float .f64 x) ∧ w' = w := by
 go_enter Tryz.func112, Tryz.ntmps112
 go_wp2
 go_ret
 exact ⟨rfl, rfl⟩
theorem zq25 (x : Nat) (hx : B64 x) (w : World) :
  Calls Tryz.prog 125 #[O ι 8, O ι 8, γ #[O ι 0, .float .f64 x, .float .f64 0]] w fun e w' => e = .returned (γ #[O ι 0, .float .f64 x, .float .f64 0]) ∧ Ext w w' := by
 have x0 : Ext w (w.alloc (χ #[O ι 0, .float .f64 x, .float .f64 0] 66)) := (Ext.refl w).alloc _ _
 have x1 : Ext (w.alloc (χ #[O ι 0, .float .f64 x, .float .f64 0] 66)) ((w.alloc (χ #[O ι 0, .float .f64 x, .float .f64 0] 66)).alloc (χ #[O ι 0, .float .f64 0, .float .f64 0] 66)) := (Ext.refl _).alloc _ _
 have X0 := hide (x0.trans x1)
 have n0 := fun j => zd w #[O ι 0, .float .f64 x, .float .f64 0] 66 w.heap.size rfl j
 have n1 := fun j => zd (w.alloc (χ #[O ι 0, .float .f64 x, .float .f64 0] 66)) #[O ι 0, .float .f64 0, .float .f64 0] 66 (w.heap.size + 1) (by simp) j
 have k0 := x1.box (n0 0)
 have k1 := x1.box (n0 1)
 have k2 := x1.box (n0 2)
 have m0 := n1 0
 have m1 := n1 1
 have m2 := n1 2
 simp only [List.getElem?_toArray, List.getElem?_cons_zero, List.getElem?_cons_succ] at m0 m1 m2
 clear n0 n1 x0 x1
 have hval := hide (fun W => zd1 8 0 x 0 (by unfold I64; omega) hx (by unfold B64; omega) W)
 rw [zo22] at hval
 have hd8 : isDtB 8 = true := by decide
 go_enter Tryz.func125, Tryz.ntmps125
 go_wp2_with (go_at_call 116; refine (zp1 _ _).mono ?_; rintro e w' ⟨rfl, rfl⟩; rw [hd8])
 generalize ((w.alloc (χ #[O ι 0, .float .f64 x, .float .f64 0] 66)).alloc (χ #[O ι 0, .float .f64 0, .float .f64 0] 66)) = W0 at *
 refine (hval.out _).mono ?_
 rintro e w1 ⟨rfl, x1⟩
 have c0 := x1.box k0
 have c1 := x1.box k1
 have c2 := x1.box k2
 have d0 := x1.box m0
 have d1 := x1.box m1
 have d2 := x1.box m2
 have HX := hide (X0.out.trans x1)
 have fz := fun (q : Nat) => HX.out.unfrozen (b := w.heap.size + 1) (by omega) q
 have hf := fz 0
 have hf1 := fz 1
 have hf2 := fz 2
 clear x1 k0 k1 k2 m0 m1 m2 X0 hval fz
 go_wp2_with fail
 refine bodyPost_ret (v := γ #[O ι 0, .float .f64 x, .float .f64 0]) (by simp [results, Tryz.results125, go_sem, d0, d1, d2]) rfl ⟨rfl, ?_⟩
 exact ((HX.out.setCell (p := ⟨w.heap.size + 1, 0, none⟩) (by show _ ≤ w.heap.size + 1; omega) _).setCell (p := ⟨w.heap.size + 1, 1, none⟩) (by show _ ≤ w.heap.size + 1; omega) _).setCell (p := ⟨w.heap.size + 1, 2, none⟩) (by show _ ≤ w.heap.size + 1; omega) _
theorem zk16 (x : Nat) (hx : B64 x) (w : World) :
  Calls Tryz.prog 73 #[O ι 8, O ι 8, γ #[O ι 0, .float .f64 x, .float .f64 0]] w fun e w' => e = .returned (γ #[O ι 0, .float .f64 x, .float .f64 0]) ∧ Ext w w' := by
 have x0 : Ext w (w.alloc (χ #[O ι 0, .float .f64 x, .float .f64 0] 66)) := (Ext.refl w).alloc _ _
 have x1 : Ext (w.alloc (χ #[O ι 0, .float .f64 x, .float .f64 0] 66)) ((w.alloc (χ #[O ι 0, .float .f64 x, .float .f64 0] 66)).alloc (χ #[O ι 0, .float .f64 0, .float .f64 0] 66)) := (Ext.refl _).alloc _ _
 have X0 := hide (x0.trans x1)
 have n0 := fun j => zd w #[O ι 0, .float .f64 x, .float .f64 0] 66 w.heap.size rfl j
 have n1 := fun j => zd (w.alloc (χ #[O ι 0, .float .f64 x, .float .f64 0] 66)) #[O ι 0, .float .f64 0, .float .f64 0] 66 (w.heap.size + 1) (by simp) j
 have k0 := x1.box (n0 0)
 have k1 := x1.box (n0 1)
 have k2 := x1.box (n0 2)
 have m0 := n1 0
 have m1 := n1 1
 have m2 := n1 2
 simp only [List.getElem?_toArray, List.getElem?_cons_zero, List.getElem?_cons_succ] at m0 m1 m2
 clear n0 n1 x0 x1
 have hval := hide (fun W => zu 8 0 x 0 hx (by unfold B64; omega) W)
 rw [zo22] at hval
 have hd8 : isDtB 8 = true := by decide
 have hk8 : skindL 8 = 2 := by decide
 go_enter Tryz.func73, Tryz.ntmps73
 go_wp2_with fail
 generalize ((w.alloc (χ #[O ι 0, .float .f64 x, .float .f64 0] 66)).alloc (χ #[O ι 0, .float .f64 0, .float .f64 0] 66)) = W0 at *
 refine (hval.out _).mono ?_
 rintro e w1 ⟨rfl, x1⟩
 have c0 := x1.box k0
 have c1 := x1.box k1
 have c2 := x1.box k2
 have d0 := x1.box m0
 have d1 := x1.box m1
 have d2 := x1.box m2
 have HX := hide (X0.out.trans x1)
 have fz := fun (q : Nat) => HX.out.unfrozen (b := w.heap.size + 1) (by omega) q
 have hf := fz 0
 have hf1 := fz 1
 have hf2 := fz 2
 clear x1 k0 k1 k2 m0 m1 m2 X0 hval fz
 go_wp2_with (first | (go_at_call 103; refine (zn _ _).mono ?_; rintro e w' ⟨rfl, rfl⟩; rw [hd8]) | (go_at_call 109; refine (zv _ _).mono ?_; rintro e w' ⟨rfl, rfl⟩; rw [hk8]) | (go_at_call 112; refine (zm16 _ _).mono ?_; rintro e w' ⟨rfl, rfl⟩))
 refine bodyPost_ret (v := γ #[O ι 0, .float .f64 x, .float .f64 0]) (by simp [results, Tryz.results73, go_sem, d0, d1, d2]) rfl ⟨rfl, ?_⟩
 exact ((HX.out.setCell (p := ⟨w.heap.size + 1, 0, none⟩) (by show _ ≤ w.heap.size + 1; omega) _).setCell (p := ⟨w.heap.size + 1, 1, none⟩) (by show _ ≤ w.heap.size + 1; omega) _).setCell (p := ⟨w.heap.size + 1, 2, none⟩) (by show _ ≤ w.heap.size + 1; omega) _
end
section
open Go.ChangeShapes Go.RowKit FL
theorem HOwn.keep {w w' : World} {lo g : Nat} {cb : Nat → Nat} {ss : List St} (h : HOwn w lo g cb ss) (hb : ∀ b, lo ≤ b → b < w.heap.size → w'.heap[b]? = w.heap[b]?) (hs : w.heap.size ≤ w'.heap.size) : HOwn w' lo g cb ss := by
 have hlg := h.lo_g
 have hc : ∀ {b o x}, lo ≤ b → w.cell? ⟨b, o, none⟩ = some x → w'.cell? ⟨b, o, none⟩ = some x := fun {b o x} hl hx => (World.cell?_of_block (w := w) (a := ⟨b, o, none⟩) (hb b hl (zj hx))).trans hx
 refine ⟨fun j hj => hc h.lo_g (h.dt j hj), fun j hj => ?_, fun j hj hne => ?_, fun o => (World.frozen?_of_block (w := w) (a := ⟨g, o, none⟩) (hb g h.lo_g h.g_lt)).trans (h.fz o), fun j hj hne o => ?_, h.lo_g, Nat.lt_of_lt_of_le h.g_lt hs, h.g_cb, h.inc⟩
 ·obtain ⟨sa, cap, h1, h2⟩ := h.sl j hj
  exact ⟨sa, cap, hc h.lo_g h1, h2⟩
 ·have hl : lo ≤ cb j := by have := h.g_cb j hj hne; omega
  have hr := h.row j hj hne
  exact fun i hi => ⟨hc hl (hr i hi).1, hc hl (hr i hi).2.1, hc hl (hr i hi).2.2⟩
 ·have hl : lo ≤ cb j := by have := h.g_cb j hj hne; omega
  have hlt := zj (h.row j hj hne 0 (List.length_pos_iff.2 hne)).1
  exact (World.frozen?_of_block (w := w) (a := ⟨cb j, o, none⟩) (hb _ hl hlt)).trans (h.fzr j hj hne o)
theorem HOwn.lower {w : World} {lo lo' g : Nat} {cb : Nat → Nat} {ss : List St} (h : HOwn w lo g cb ss) (hl : lo' ≤ lo) : HOwn w lo' g cb ss :=
 ⟨h.dt, h.sl, h.row, h.fz, h.fzr, Nat.le_trans hl h.lo_g, h.g_lt, h.g_cb, h.inc⟩
def set3 (w : World) (b o : Nat) (x : Nat) : World := ((w.setCell ⟨b, o, none⟩ (O ι 0)).setCell ⟨b, o + 1, none⟩ (.float .f64 x)).setCell ⟨b, o + 2, none⟩ (.float .f64 0)
end
section
open Go.ChangeShapes Go.RowKit Go.Shelf FL
attribute [local go_sem] Oper.semAt_some
def putN (cs : List C3) (L : List Int) (X : List Nat) : Nat → List C3
 | 0 => cs
 | j + 1 => (putN cs L X j).set (L.getD j 0).toNat (0, X.getD j 0, 0)
def putS (ss : List St) (m : Nat) (L : List Int) (X : List Nat) (j : Nat) : List St := ss.set m ((ss.getD m s0).1, putN (ss.getD m s0).2 L X j)
theorem zq2 {α : Type} (l : List α) (i j : Nat) (a d : α) : (l.set i a).getD j d = if i = j ∧ j < l.length then a else l.getD j d := by
 simp only [List.getD_eq_getElem?_getD, List.getElem?_set]
 by_cases h : i = j
 ·subst h
  by_cases hl : i < l.length
  ·simp [hl]
  ·simp [hl]
 ·simp [h]
theorem zh1 {α : Type} (l : List α) : l = [] ↔ l.length = 0 := by cases l <;> simp
theorem zd9 {W W' : World} {row : Option Nat} (hg : W.grownBy W' row) (hr : ∀ r, row = some r → ∃ o : Obj, W.heap[r]? = some o ∧ o.isCells = false) {b q : Nat} {x : Value} (hc : W.cell? ⟨b, q, none⟩ = some x) : W'.heap[b]? = W.heap[b]? :=
 by
  obtain ⟨o, h1, h2⟩ := cells_of_cell hc
  exact grownBy_keeps_cells hg hr h1 h2
theorem HOwn.kept {A B : World} {lo g : Nat} {cb : Nat → Nat} {ss : List St} {row : Option Nat} (h : HOwn A lo g cb ss) (h0 : 0 < ss.length) (hg : A.grownBy B row) (hr : ∀ r, row = some r → ∃ o : Obj, A.heap[r]? = some o ∧ o.isCells = false) : HOwn B lo g cb ss := by
 have hbg : B.heap[g]? = A.heap[g]? := zd9 hg hr (h.dt 0 h0)
 have hc : ∀ {b o x}, A.cell? ⟨b, o, none⟩ = some x → B.cell? ⟨b, o, none⟩ = some x := fun hx => cell_kept hx hg hr
 refine ⟨fun j hj => hc (h.dt j hj), fun j hj => ?_, fun j hj hne => fun i hi => ⟨hc (h.row j hj hne i hi).1, hc (h.row j hj hne i hi).2.1, hc (h.row j hj hne i hi).2.2⟩, fun o => (World.frozen?_of_block (w := A) (a := ⟨g, o, none⟩) hbg).trans (h.fz o), fun j hj hne o => ?_, h.lo_g, Nat.lt_of_lt_of_le h.g_lt hg.size, h.g_cb, h.inc⟩
 ·obtain ⟨sa, cap, h1, h2⟩ := h.sl j hj
  exact ⟨sa, cap, hc h1, h2⟩
 ·exact (World.frozen?_of_block (w := A) (a := ⟨cb j, o, none⟩) (zd9 hg hr (h.row j hj hne 0 (List.length_pos_iff.2 hne)).1)).trans (h.fzr j hj hne o)
theorem Ext.others {W W' : World} (x : Ext W W') : KeepsOthers W W' := ⟨x.bl.size, fun k o hk _ => (x.bl.block k (Array.getElem?_eq_some_iff.1 hk).1).trans hk⟩
theorem Ext.kc {W W' : World} (x : Ext W W') (b : Nat) : KC b W W' := ⟨x.bl.size, fun k o _ hk _ => (x.bl.block k (Array.getElem?_eq_some_iff.1 hk).1).trans hk⟩
theorem HOwn.far {w : World} {lo g b o : Nat} {cb : Nat → Nat} {ss : List St} {v : Value} (h : HOwn w lo g cb ss) (hg : b ≠ g) (hc : ∀ j, j < ss.length → (ss.getD j s0).2 ≠ [] → b ≠ cb j) : HOwn (w.setCell ⟨b, o, none⟩ v) lo g cb ss := by
 have hk : ∀ {c q x}, b ≠ c → w.cell? ⟨c, q, none⟩ = some x → (w.setCell ⟨b, o, none⟩ v).cell? ⟨c, q, none⟩ = some x := fun {c q x} hne hx => (World.cell?_of_block (w := w) (a := ⟨c, q, none⟩) (Below.heap_setCell _ _ _ _ (Ne.symm hne))).trans hx
 refine ⟨fun j hj => hk hg (h.dt j hj), fun j hj => ?_, fun j hj hne => fun i hi => ⟨hk (hc j hj hne) (h.row j hj hne i hi).1, hk (hc j hj hne) (h.row j hj hne i hi).2.1, hk (hc j hj hne) (h.row j hj hne i hi).2.2⟩, fun q => by rw [World.frozen?_setCell]; exact h.fz q, fun j hj hne q => by rw [World.frozen?_setCell]; exact h.fzr j hj hne q, h.lo_g, by have := h.g_lt; simpa [World.setCell] using this, h.g_cb, h.inc⟩
 obtain ⟨sa, cap, h1, h2⟩ := h.sl j hj
 exact ⟨sa, cap, hk hg h1, h2⟩
theorem zn27 {w : World} {b o c q : Nat} {x v : Value} (h : w.cell? ⟨b, o, none⟩ = some x) (hne : b ≠ c := by omega) : (w.setCell ⟨c, q, none⟩ v).cell? ⟨b, o, none⟩ = some x := (World.cell?_of_block (w := w) (a := ⟨b, o, none⟩) (Below.heap_setCell _ _ _ _ hne)).trans h
structure HwI (W4 w2 : World) (g : Nat) (cb : Nat → Nat) (ss : List St) (m : Nat) (X : List Nat) (sb : Option Addr) (cl cp : Nat) (L : List Int) (W : World) : Prop where
 own : HOwn W W4.heap.size g cb (putS ss m L X L.length)
 d0 : W.cell? ⟨w2.heap.size, 0, none⟩ = some (σ (some ⟨g, 0, none⟩) ss.length ss.length)
 d1 : W.cell? ⟨w2.heap.size, 1, none⟩ = some (σ sb cl cp)
 d2 : W.cell? ⟨w2.heap.size, 2, none⟩ = some (O ι 8)
 d3 : W.cell? ⟨w2.heap.size, 3, none⟩ = some (O ι 8)
 ni : W.cell? ⟨w2.heap.size + 1, 0, none⟩ = some (O ι L.length)
 nf : W.frozen? ⟨w2.heap.size + 1, 0, none⟩ = false
end
section
open Go.RowKit Go.ChangeShapes
theorem zk {w w' : World} {v : Value} {xs : List Int} (h : Ints w v xs) (x : Bel w w') : Ints w' v xs := by
 obtain ⟨sa, cap, rfl, h⟩ := h
 refine ⟨sa, cap, rfl, ?_⟩
 rcases h with h | ⟨b, off, h1, h2⟩
 ·exact Or.inl h
 ·exact Or.inr ⟨b, off, h1, fun j hj => Bel.box x (h2 j hj)⟩
structure Ar where
 st : Int
 xs : List Int
 sv : List Int
 off : Int
def a0A : Ar := ⟨0, [], [], 0⟩
def ARow (w : World) (g o : Nat) (al : List Ar) : Prop := ∀ j, j < al.length → ∃ vS vT, w.cell? ⟨g, o + j * 4, none⟩ = some (O ι (al.getD j a0A).st) ∧ w.cell? ⟨g, o + j * 4 + 1, none⟩ = some vS ∧ w.cell? ⟨g, o + j * 4 + 2, none⟩ = some vT ∧ w.cell? ⟨g, o + j * 4 + 3, none⟩ = some (O ι (al.getD j a0A).off) ∧ Ints w vS (al.getD j a0A).xs ∧ Ints w vT (al.getD j a0A).sv
def Ar.Len (a : Ar) : Prop := a.xs.length ≤ 1048576 ∧ a.sv.length ≤ 1048576
abbrev Ar.Good (ss : List St) (a : Ar) : Prop := GoodA ss a.st a.xs a.sv a.off
def firstL (ss : List St) (al : List Ar) : Int := if vHeap ss = true then (if ∀ a ∈ al, a.Good ss then 0 else 2) else 1
theorem zs13 {w : World} {v : Value} {ss : List St} {g o cp : Nat} {al : List Ar} (h : SV w v ss) (hg : SG ss) (hl : SL ss 1048576) (ha : ARow w g o al) (hal : ∀ a ∈ al, a.Len) (hn : al.length ≤ 1000) :
  Calls Tryz.prog 25 #[γ #[v], σ (some ⟨g, o, none⟩) al.length cp] w fun e w' => e = .returned (O ι (firstL ss al)) ∧ Bel w w' := by
 obtain ⟨sa, cap, rfl, hx⟩ := h
 have h : SV w (σ sa ss.length cap) ss := ⟨sa, cap, rfl, hx⟩
 have x0 : Ext w (w.alloc (χ #[σ sa ss.length cap] 34)) := (Ext.refl w).alloc _ _
 have n1 := fun j => zd w #[σ sa ss.length cap] 34 w.heap.size rfl j
 have C0 : Hid ((w.alloc (χ #[σ sa ss.length cap] 34)).cell? ⟨w.heap.size, 0, none⟩ = some (σ sa ss.length cap)) := n1 0
 have c0 := C0.out
 have X0 := hide x0
 have HH := hide (h.keep x0.bl)
 have hvh := hide (zk23 HH.out hg hl)
 have HA := hide ha
 have H0 := hide h
 clear hx h x0 n1 ha
 cases hV : vHeap ss with
 | false =>
  have hf : Hid (firstL ss al = 1) := by show _ = _; unfold firstL; rw [if_neg (by rw [hV]; simp)]
  rw [hV] at hvh
  go_enter Tryz.func25, Tryz.ntmps25
  go_wp2_with (go_at_call 65; refine hvh.out.mono ?_; rintro e w1 ⟨rfl, x1⟩)
  go_ret
  exact ⟨by rw [hf.out]; rfl, (X0.out.trans x1).bl⟩
 | true =>
  have hf : Hid (firstL ss al = if ∀ a ∈ al, a.Good ss then 0 else 2) := by show _ = _; unfold firstL; rw [if_pos hV]
  rw [hV] at hvh
  go_enter Tryz.func25, Tryz.ntmps25
  go_wp2_with fail
  refine hvh.out.mono ?_
  rintro e w1 ⟨rfl, x1⟩
  have X1 := hide (X0.out.trans x1).bl
  have C1 := hide (x1.box c0)
  clear c0 x1 hvh
  go_wp2_with fail
  go_loopw [5] (fun i wr => ∃ k : Nat, i = O ι k ∧ k ≤ al.length ∧ (∀ j, j < k → (al.getD j a0A).Good ss) ∧ Bel w wr ∧ wr.cell? ⟨w.heap.size, 0, none⟩ = some (σ sa ss.length cap)) (fun i _ => al.length - (intOf i).toNat)
  case atStart => exact ⟨0, rfl, by omega, fun j hj => by omega, X1.out, C1.out⟩
  case round =>
   obtain ⟨k, rfl, hk, hgd, hB, c0⟩ := hrel
   by_cases hkn : k < al.length
   ·obtain ⟨vS, vT, q0, q1, q2, q3, i1, i2⟩ := HA.out k hkn
    have q0 := Bel.box hB q0
    have q1 := Bel.box hB q1
    have q2 := Bel.box hB q2
    have q3 := Bel.box hB q3
    have i1 := zk i1 hB.drew
    have i2 := zk i2 hB.drew
    have hlen := hal _ (show al.getD k a0A ∈ al by rw [List.getD_eq_getElem?_getD, List.getElem?_eq_getElem hkn]; exact List.getElem_mem _)
    have HGD := hide (zf17 (H0.out.keep hB.drew) hl (al.getD k a0A).st i1 i2 (al.getD k a0A).off hlen.1 hlen.2)
    have HBB := hide hB
    have hno : Hid (¬ (al.getD k a0A).Good ss → firstL ss al = 2) := fun q => by
     rw [hf.out, if_neg (fun z => q (z _ (by rw [List.getD_eq_getElem?_getD, List.getElem?_eq_getElem hkn]; exact List.getElem_mem _)))]
    have hnx : Hid ((al.getD k a0A).Good ss → ∀ j, j < k + 1 → (al.getD j a0A).Good ss) := fun q j hj => by
     by_cases e : j = k
     ·rw [e]; exact q
     ·exact hgd j (by omega)
    have k0' : (0 : Int) ≤ (k : Int) := Int.natCast_nonneg _
    have k1 : (k : Int) < (al.length : Int) := by omega
    change Hid (Calls _ _ _ _ fun e w' => e = .returned (.bool (decide ((al.getD k a0A).Good ss))) ∧ Bel wr.drew w') at HGD
    generalize al.getD k a0A = a at q0 q1 q2 q3 HGD hno hnx
    obtain ⟨st, xs, sv, off⟩ := a
    simp only at q0 q1 q2 q3 HGD
    clear hgd hB i1 i2 hlen
    by_cases hq : Ar.Good ss ⟨st, xs, sv, off⟩
    ·rw [decide_eq_true hq] at HGD
     go_wp2_with fail
     go_region_with (go_at_call 66; refine HGD.out.mono ?_; rintro e w2 ⟨rfl, hB2⟩)
     all_goals
      have HB3 : Hid (Bel w w2) := Below.trans HBB.out.drew (hB2.mono (HBB.out.drew).size)
      have c2 : w2.cell? ⟨w.heap.size, 0, none⟩ = some (σ sa ss.length cap) := Bel.box hB2 c0
      clear hB2
      go_wp2_with fail
      go_roundw
      ·exact ⟨k + 1, by go_num, by omega, hnx.out hq, HB3.out, c2⟩
      ·simp [intOf]; omega
    ·rw [decide_eq_false hq] at HGD
     go_wp2_with fail
     go_region_with (go_at_call 66; refine HGD.out.mono ?_; rintro e w2 ⟨rfl, hB2⟩)
     all_goals
      have HB3 : Hid (Bel w w2) := Below.trans HBB.out.drew (hB2.mono (HBB.out.drew).size)
      clear hB2
      go_wp2
      go_ret
      exact ⟨by rw [hno.out hq]; rfl, HB3.out⟩
   ·have hkk : k = al.length := by omega
    subst hkk
    have hd : Hid (firstL ss al = 0) := by
     show _ = _
     rw [hf.out, if_pos (fun a ha => by
      obtain ⟨j, hj, e⟩ := List.mem_iff_getElem.1 ha
      have := hgd j hj
      rw [List.getD_eq_getElem?_getD, List.getElem?_eq_getElem hj] at this
      rw [← e]; exact this)]
    go_wp2
    go_ret
    exact ⟨by rw [hd.out]; rfl, hB⟩
end
section
open Go.ChangeShapes Go.RowKit FL
theorem HSp.keep {w w' : World} {lo g : Nat} {cb : Nat → Nat} {ss : List St} (h : HSp w lo g cb ss) (hb : ∀ b, lo ≤ b → b < w.heap.size → w'.heap[b]? = w.heap[b]?) : HSp w' lo g cb ss := by
 have hlg := h.lo_g
 have hc : ∀ {b o x}, lo ≤ b → w.cell? ⟨b, o, none⟩ = some x → w'.cell? ⟨b, o, none⟩ = some x := fun {b o x} hl hx => (World.cell?_of_block (w := w) (a := ⟨b, o, none⟩) (hb b hl (zj hx))).trans hx
 refine ⟨fun j hj => hc h.lo_g (h.dt j hj), fun j hj => ?_, fun j hj hne => ?_, fun j hj hne o => ?_, h.lo_g, h.ne, h.nd⟩
 ·obtain ⟨sa, cap, h1, h2⟩ := h.sl j hj
  exact ⟨sa, cap, hc h.lo_g h1, h2⟩
 ·have hl := (h.ne j hj hne).2
  have hr := h.row j hj hne
  exact fun i hi => ⟨hc hl (hr i hi).1, hc hl (hr i hi).2.1, hc hl (hr i hi).2.2⟩
 ·have hl := (h.ne j hj hne).2
  have hlt := zj (h.row j hj hne 0 (List.length_pos_iff.2 hne)).1
  exact (World.frozen?_of_block (w := w) (a := ⟨cb j, o, none⟩) (hb _ hl hlt)).trans (h.fzr j hj hne o)
theorem HSp.lower {w : World} {lo lo' g : Nat} {cb : Nat → Nat} {ss : List St} (h : HSp w lo g cb ss) (hl : lo' ≤ lo) : HSp w lo' g cb ss := ⟨h.dt, h.sl, h.row, h.fzr, Nat.le_trans hl h.lo_g, fun j hj hne => ⟨(h.ne j hj hne).1, Nat.le_trans hl (h.ne j hj hne).2⟩, h.nd⟩
theorem zi14 (w : World) (a : Int) (f g : Nat) (hf : B64 f) (hg : B64 g) :
  Calls Tryz.prog 147 #[γ #[O ι a, .float .f64 f, .float .f64 g], γ #[O ι a, .float .f64 f, .float .f64 g]] w fun e w' => e = .returned (.bool true) ∧ Ext w w' := by
 have x0 : Hid (Ext w ((w.alloc (χ #[O ι a, .float .f64 f, .float .f64 g] 66)).alloc (χ #[O ι a, .float .f64 f, .float .f64 g] 66))) := ((Ext.refl w).alloc _ _).alloc _ _
 have c1 := hide (fun W => zh2 f f hf hf W)
 have c2 := hide (fun W => zh2 g g hg hg W)
 rw [za3] at c1 c2
 go_enter Tryz.func147, Tryz.ntmps147
 go_wp2_with fail
 refine (c1.out _).mono ?_
 rintro e w1 ⟨rfl, rfl⟩
 go_wp2_with fail
 refine (c2.out _).mono ?_
 rintro e w2 ⟨rfl, rfl⟩
 go_wp2
 go_ret
 exact ⟨rfl, x0.out⟩
theorem za12 {w : World} {v u : Value} {cs : List C3} (h : CV w v cs) (g : CV w u cs) (hg : CG cs) (hl : cs.length ≤ 1048576) :
  Calls Tryz.prog 126 #[v, u] w fun e w' => e = .returned (.bool true) ∧ Ext w w' := by
 obtain ⟨sa, cap, rfl, hx⟩ := h
 obtain ⟨ta, dap, rfl, hy⟩ := g
 have HX := hide hx
 have HY := hide hy
 clear hx hy
 go_enter Tryz.func126, Tryz.ntmps126
 go_wp2
 go_loopw [5] (fun i wr => ∃ k : Nat, i = O ι k ∧ k ≤ cs.length ∧ Ext w wr) (fun i _ => cs.length - (intOf i).toNat)
 case atStart => exact ⟨0, rfl, by omega, Ext.refl w⟩
 case round =>
  obtain ⟨k, rfl, hk, hw⟩ := hrel
  have HW := hide hw
  clear hw
  by_cases hlt : k < cs.length
  ·rcases HX.out with h0 | ⟨b, off, rfl, hrow⟩
   ·rw [h0] at hlt; simp at hlt
   rcases HY.out with h0 | ⟨b2, off2, rfl, hrow2⟩
   ·rw [h0] at hlt; simp at hlt
   have q0 := HW.out.box (hrow k hlt).1
   have q1 := HW.out.box (hrow k hlt).2.1
   have q2 := HW.out.box (hrow k hlt).2.2
   have r0 := HW.out.box (hrow2 k hlt).1
   have r1 := HW.out.box (hrow2 k hlt).2.1
   have r2 := HW.out.box (hrow2 k hlt).2.2
   have hgk := hg.at k hlt
   have hk0 : (0 : Int) ≤ (k : Int) := Int.natCast_nonneg _
   have hk1 : (k : Int) < (cs.length : Int) := by omega
   generalize (cs.getD k k0).1 = A at q0 r0 hgk
   generalize (cs.getD k k0).2.1 = B at q1 r1 hgk
   generalize (cs.getD k k0).2.2 = C at q2 r2 hgk
   have HG := hide hgk.2
   clear hrow hrow2 hgk
   have SA : Hid ((fun w' => w'.cell? ⟨b, off + k * 3, none⟩ = some (O ι A) ∧ w'.cell? ⟨b, off + k * 3 + 1, none⟩ = some (.float .f64 B) ∧ w'.cell? ⟨b, off + k * 3 + 2, none⟩ = some (.float .f64 C) ∧ w'.cell? ⟨b2, off2 + k * 3, none⟩ = some (O ι A) ∧ w'.cell? ⟨b2, off2 + k * 3 + 1, none⟩ = some (.float .f64 B) ∧ w'.cell? ⟨b2, off2 + k * 3 + 2, none⟩ = some (.float .f64 C)) wr.drew) := ⟨q0, q1, q2, r0, r1, r2⟩
   go_wp2_with fail
   go_region_held3 (fun w' => w'.cell? ⟨b, off + k * 3, none⟩ = some (O ι A) ∧ w'.cell? ⟨b, off + k * 3 + 1, none⟩ = some (.float .f64 B) ∧ w'.cell? ⟨b, off + k * 3 + 2, none⟩ = some (.float .f64 C) ∧ w'.cell? ⟨b2, off2 + k * 3, none⟩ = some (O ι A) ∧ w'.cell? ⟨b2, off2 + k * 3 + 1, none⟩ = some (.float .f64 B) ∧ w'.cell? ⟨b2, off2 + k * 3 + 2, none⟩ = some (.float .f64 C)) (first | with_reducible exact SA.out | with_reducible exact SB'.out | exact SA.out | exact SB'.out | fail) (first | (go_at_call 147; refine (zi14 _ A B C HG.out.1 HG.out.2).mono ?_; rintro e w2 ⟨rfl, x2⟩; have HW2 := hide (HW.out.drew.trans x2); have SB' : Hid ((fun w' => w'.cell? ⟨b, off + k * 3, none⟩ = some (O ι A) ∧ w'.cell? ⟨b, off + k * 3 + 1, none⟩ = some (.float .f64 B) ∧ w'.cell? ⟨b, off + k * 3 + 2, none⟩ = some (.float .f64 C) ∧ w'.cell? ⟨b2, off2 + k * 3, none⟩ = some (O ι A) ∧ w'.cell? ⟨b2, off2 + k * 3 + 1, none⟩ = some (.float .f64 B) ∧ w'.cell? ⟨b2, off2 + k * 3 + 2, none⟩ = some (.float .f64 C)) w2) := ⟨x2.box q0, x2.box q1, x2.box q2, x2.box r0, x2.box r1, x2.box r2⟩; clear x2) | fail)
   go_wp2
   go_roundw
   ·exact ⟨k + 1, by go_num, by omega, HW2.out⟩
   ·simp [intOf]; omega
  ·have hkk : k = cs.length := by omega
   subst hkk
   go_wp2
   go_ret
   exact ⟨rfl, HW.out⟩
theorem zz11 {w : World} {v u : Value} {cs : List C3} (dt : Int) (h : CV w v cs) (g : CV w u cs) (hg : CG cs) (hl : cs.length ≤ 1048576) :
  Calls Tryz.prog 90 #[γ #[O ι dt, v], γ #[O ι dt, u]] w fun e w' => e = .returned (.bool true) ∧ Ext w w' := by
 obtain ⟨sa, cap, e1, hx⟩ := h
 obtain ⟨ta, dap, e2, hy⟩ := g
 have h : CV w v cs := ⟨sa, cap, e1, hx⟩
 have g : CV w u cs := ⟨ta, dap, e2, hy⟩
 have x0 : Ext w ((w.alloc (χ #[O ι dt, v] 123)).alloc (χ #[O ι dt, u] 123)) := ((Ext.refl w).alloc _ _).alloc _ _
 have HX := hide x0
 have C1 := hide (za12 (h.keep x0.bl) (g.keep x0.bl) hg hl)
 clear hx hy h g x0
 subst e1 e2
 go_enter Tryz.func90, Tryz.ntmps90
 go_wp2_with fail
 refine C1.out.mono ?_
 rintro e w1 ⟨rfl, x1⟩
 have HX1 := hide (HX.out.trans x1)
 clear x1
 go_wp2
 go_ret
 exact ⟨rfl, HX1.out⟩
theorem zb10 {w : World} {v u : Value} {ss : List St} (h : SV w v ss) (g : SV w u ss) (hg : SG ss) (hl : SL ss 1048576) :
  Calls Tryz.prog 47 #[v, u] w fun e w' => e = .returned (.bool true) ∧ Ext w w' := by
 obtain ⟨sa, cap, rfl, hx⟩ := h
 obtain ⟨ta, dap, rfl, hy⟩ := g
 have HX := hide hx
 have HY := hide hy
 have hl1 := hl.1
 clear hx hy
 go_enter Tryz.func47, Tryz.ntmps47
 go_wp2
 go_loopw [5] (fun i wr => ∃ k : Nat, i = O ι k ∧ k ≤ ss.length ∧ Ext w wr) (fun i _ => ss.length - (intOf i).toNat)
 case atStart => exact ⟨0, rfl, by omega, Ext.refl w⟩
 case round =>
  obtain ⟨k, rfl, hk, hw⟩ := hrel
  have HW := hide hw
  clear hw
  by_cases hlt : k < ss.length
  ·rcases HX.out with h0 | ⟨b, off, rfl, hrow⟩
   ·rw [h0] at hlt; simp at hlt
   rcases HY.out with h0 | ⟨b2, off2, rfl, hrow2⟩
   ·rw [h0] at hlt; simp at hlt
   obtain ⟨q0, u1, q1, c1⟩ := (hrow.keep HW.out.bl) k hlt
   obtain ⟨r0, u2, r1, c2⟩ := (hrow2.keep HW.out.bl) k hlt
   have hgk := hg.at k hlt
   have hlk := hl.at k hlt
   have hk0 : (0 : Int) ≤ (k : Int) := Int.natCast_nonneg _
   have hk1 : (k : Int) < (ss.length : Int) := by omega
   have C1 := hide c1
   have C2 := hide c2
   have HG := hide hgk
   clear c1 c2 hgk
   generalize (ss.getD k s0).1 = A at q0 r0
   generalize (ss.getD k s0).2 = cs at C1 C2 HG hlk
   clear hrow hrow2
   obtain ⟨s1, d1, rfl, _⟩ := C1.out
   obtain ⟨s2, d2, rfl, _⟩ := C2.out
   have SA : Hid ((fun w' => w'.cell? ⟨b, off + k * 2, none⟩ = some (O ι A) ∧ w'.cell? ⟨b, off + k * 2 + 1, none⟩ = some (σ s1 cs.length d1) ∧ w'.cell? ⟨b2, off2 + k * 2, none⟩ = some (O ι A) ∧ w'.cell? ⟨b2, off2 + k * 2 + 1, none⟩ = some (σ s2 cs.length d2)) wr.drew) := ⟨q0, q1, r0, r1⟩
   have xd : Ext wr wr.drew := (Ext.refl wr).drew
   have CC := hide (zz11 A (C1.out.keep xd.bl) (C2.out.keep xd.bl) HG.out hlk)
   clear xd
   go_wp2_with fail
   go_region_held3 (fun w' => w'.cell? ⟨b, off + k * 2, none⟩ = some (O ι A) ∧ w'.cell? ⟨b, off + k * 2 + 1, none⟩ = some (σ s1 cs.length d1) ∧ w'.cell? ⟨b2, off2 + k * 2, none⟩ = some (O ι A) ∧ w'.cell? ⟨b2, off2 + k * 2 + 1, none⟩ = some (σ s2 cs.length d2)) (first | with_reducible exact SA.out | with_reducible exact SB'.out | exact SA.out | exact SB'.out | fail) (first | (go_at_call 90; refine CC.out.mono ?_; rintro e w2 ⟨rfl, x2⟩; have HW2 := hide (HW.out.drew.trans x2); have SB' : Hid ((fun w' => w'.cell? ⟨b, off + k * 2, none⟩ = some (O ι A) ∧ w'.cell? ⟨b, off + k * 2 + 1, none⟩ = some (σ s1 cs.length d1) ∧ w'.cell? ⟨b2, off2 + k * 2, none⟩ = some (O ι A) ∧ w'.cell? ⟨b2, off2 + k * 2 + 1, none⟩ = some (σ s2 cs.length d2)) w2) := ⟨x2.box q0, x2.box q1, x2.box r0, x2.box r1⟩; clear x2) | fail)
   go_wp2
   go_roundw
   ·exact ⟨k + 1, by go_num, by omega, HW2.out⟩
   ·simp [intOf]; omega
  ·have hkk : k = ss.length := by omega
   subst hkk
   go_wp2
   go_ret
   exact ⟨rfl, HW.out⟩
theorem zh14 {w : World} {v u : Value} {ss : List St} (h : SV w v ss) (g : SV w u ss) (hg : SG ss) (hl : SL ss 1048576) :
  Calls Tryz.prog 13 #[γ #[v], γ #[u]] w fun e w' => e = .returned (.bool true) ∧ Ext w w' := by
 obtain ⟨sa, cap, e1, hx⟩ := h
 obtain ⟨ta, dap, e2, hy⟩ := g
 have h : SV w v ss := ⟨sa, cap, e1, hx⟩
 have g : SV w u ss := ⟨ta, dap, e2, hy⟩
 have x0 : Ext w ((w.alloc (χ #[v] 34)).alloc (χ #[u] 34)) := ((Ext.refl w).alloc _ _).alloc _ _
 have HX := hide x0
 have C1 := hide (zb10 (h.keep x0.bl) (g.keep x0.bl) hg hl)
 clear hx hy h g x0
 subst e1 e2
 go_enter Tryz.func13, Tryz.ntmps13
 go_wp2_with fail
 refine C1.out.mono ?_
 rintro e w1 ⟨rfl, x1⟩
 have HX1 := hide (HX.out.trans x1)
 clear x1
 go_wp2
 go_ret
 exact ⟨rfl, HX1.out⟩
def C3.Sm (c d : C3) : Prop := c.1 = d.1 ∧ sameB c.2.1 d.2.1 = true ∧ sameB c.2.2 d.2.2 = true
theorem C3.Sm.refl (c : C3) : C3.Sm c c := ⟨rfl, za3 _, za3 _⟩
def CSm (cs ds : List C3) : Prop := cs.length = ds.length ∧ ∀ j, j < cs.length → C3.Sm (cs.getD j k0) (ds.getD j k0)
theorem CSm.refl (cs : List C3) : CSm cs cs := ⟨rfl, fun j _ => C3.Sm.refl _⟩
def SSm (ss ts : List St) : Prop := ss.length = ts.length ∧ ∀ j, j < ss.length → (ss.getD j s0).1 = (ts.getD j s0).1 ∧ CSm (ss.getD j s0).2 (ts.getD j s0).2
theorem SSm.refl (ss : List St) : SSm ss ss := ⟨rfl, fun j _ => ⟨rfl, CSm.refl _⟩⟩
theorem zc20 (w : World) (a : Int) (f g f2 g2 : Nat) (hf : B64 f) (hg : B64 g) (hf2 : B64 f2) (hg2 : B64 g2) (s1 : sameB f f2 = true) (s2 : sameB g g2 = true) :
  Calls Tryz.prog 147 #[γ #[O ι a, .float .f64 f, .float .f64 g], γ #[O ι a, .float .f64 f2, .float .f64 g2]] w fun e w' => e = .returned (.bool true) ∧ Ext w w' := by
 have x0 : Hid (Ext w ((w.alloc (χ #[O ι a, .float .f64 f, .float .f64 g] 66)).alloc (χ #[O ι a, .float .f64 f2, .float .f64 g2] 66))) := ((Ext.refl w).alloc _ _).alloc _ _
 have c1 := hide (fun W => zh2 f f2 hf hf2 W)
 have c2 := hide (fun W => zh2 g g2 hg hg2 W)
 rw [s1] at c1
 rw [s2] at c2
 go_enter Tryz.func147, Tryz.ntmps147
 go_wp2_with fail
 refine (c1.out _).mono ?_
 rintro e w1 ⟨rfl, rfl⟩
 go_wp2_with fail
 refine (c2.out _).mono ?_
 rintro e w2 ⟨rfl, rfl⟩
 go_wp2
 go_ret
 exact ⟨rfl, x0.out⟩
theorem zs17 {w : World} {v u : Value} {cs ds : List C3} (h : CV w v cs) (g : CV w u ds) (hsm : CSm cs ds) (hg : CG cs) (hg2 : CG ds) (hl : cs.length ≤ 1048576) :
  Calls Tryz.prog 126 #[v, u] w fun e w' => e = .returned (.bool true) ∧ Ext w w' := by
 obtain ⟨sa, cap, rfl, hx⟩ := h
 obtain ⟨ta, dap, rfl, hy⟩ := g
 have HX := hide hx
 have HY := hide hy
 have HSM := hide hsm
 have hdl := hsm.1
 have Hdl := hide hdl
 clear hx hy hsm
 rw [← hdl]
 clear hdl
 go_enter Tryz.func126, Tryz.ntmps126
 go_wp2
 go_loopw [5] (fun i wr => ∃ k : Nat, i = O ι k ∧ k ≤ cs.length ∧ Ext w wr) (fun i _ => cs.length - (intOf i).toNat)
 case atStart => exact ⟨0, rfl, by omega, Ext.refl w⟩
 case round =>
  obtain ⟨k, rfl, hk, hw⟩ := hrel
  have HW := hide hw
  clear hw
  by_cases hlt : k < cs.length
  ·rcases HX.out with h0 | ⟨b, off, rfl, hrow⟩
   ·rw [h0] at hlt; simp at hlt
   rcases HY.out with h0 | ⟨b2, off2, rfl, hrow2⟩
   ·rw [Hdl.out, h0] at hlt; simp at hlt
   have q0 := HW.out.box (hrow k hlt).1
   have q1 := HW.out.box (hrow k hlt).2.1
   have q2 := HW.out.box (hrow k hlt).2.2
   have hlt2 : k < ds.length := by rw [← Hdl.out]; exact hlt
   have r0 := HW.out.box (hrow2 k hlt2).1
   have r1 := HW.out.box (hrow2 k hlt2).2.1
   have r2 := HW.out.box (hrow2 k hlt2).2.2
   have hgk := hg.at k hlt
   have hgk2 := hg2.at k hlt2
   obtain ⟨m1, m2, m3⟩ := HSM.out.2 k hlt
   rw [← m1] at r0
   have hk0 : (0 : Int) ≤ (k : Int) := Int.natCast_nonneg _
   have hk1 : (k : Int) < (cs.length : Int) := by omega
   have HG := hide hgk.2
   have HG2 := hide hgk2.2
   have HM2 := hide m2
   have HM3 := hide m3
   clear hrow hrow2 hgk hgk2 m1 m2 m3
   generalize (cs.getD k k0).1 = A at q0 r0
   generalize (cs.getD k k0).2.1 = B at q1 HG HM2
   generalize (cs.getD k k0).2.2 = C at q2 HG HM3
   generalize (ds.getD k k0).2.1 = B2 at r1 HG2 HM2
   generalize (ds.getD k k0).2.2 = C2 at r2 HG2 HM3
   have SA : Hid ((fun w' => w'.cell? ⟨b, off + k * 3, none⟩ = some (O ι A) ∧ w'.cell? ⟨b, off + k * 3 + 1, none⟩ = some (.float .f64 B) ∧ w'.cell? ⟨b, off + k * 3 + 2, none⟩ = some (.float .f64 C) ∧ w'.cell? ⟨b2, off2 + k * 3, none⟩ = some (O ι A) ∧ w'.cell? ⟨b2, off2 + k * 3 + 1, none⟩ = some (.float .f64 B2) ∧ w'.cell? ⟨b2, off2 + k * 3 + 2, none⟩ = some (.float .f64 C2)) wr.drew) := ⟨q0, q1, q2, r0, r1, r2⟩
   go_wp2_with fail
   go_region_held3 (fun w' => w'.cell? ⟨b, off + k * 3, none⟩ = some (O ι A) ∧ w'.cell? ⟨b, off + k * 3 + 1, none⟩ = some (.float .f64 B) ∧ w'.cell? ⟨b, off + k * 3 + 2, none⟩ = some (.float .f64 C) ∧ w'.cell? ⟨b2, off2 + k * 3, none⟩ = some (O ι A) ∧ w'.cell? ⟨b2, off2 + k * 3 + 1, none⟩ = some (.float .f64 B2) ∧ w'.cell? ⟨b2, off2 + k * 3 + 2, none⟩ = some (.float .f64 C2)) (first | with_reducible exact SA.out | with_reducible exact SB'.out | exact SA.out | exact SB'.out | fail) (first | (go_at_call 147; refine (zc20 _ A B C B2 C2 HG.out.1 HG.out.2 HG2.out.1 HG2.out.2 HM2.out HM3.out).mono ?_; rintro e w2 ⟨rfl, x2⟩; have HW2 := hide (HW.out.drew.trans x2); have SB' : Hid ((fun w' => w'.cell? ⟨b, off + k * 3, none⟩ = some (O ι A) ∧ w'.cell? ⟨b, off + k * 3 + 1, none⟩ = some (.float .f64 B) ∧ w'.cell? ⟨b, off + k * 3 + 2, none⟩ = some (.float .f64 C) ∧ w'.cell? ⟨b2, off2 + k * 3, none⟩ = some (O ι A) ∧ w'.cell? ⟨b2, off2 + k * 3 + 1, none⟩ = some (.float .f64 B2) ∧ w'.cell? ⟨b2, off2 + k * 3 + 2, none⟩ = some (.float .f64 C2)) w2) := ⟨x2.box q0, x2.box q1, x2.box q2, x2.box r0, x2.box r1, x2.box r2⟩; clear x2) | fail)
   go_wp2
   go_roundw
   ·exact ⟨k + 1, by go_num, by omega, HW2.out⟩
   ·simp [intOf]; omega
  ·have hkk : k = cs.length := by omega
   subst hkk
   go_wp2
   go_ret
   exact ⟨rfl, HW.out⟩
theorem zr17 {w : World} {v u : Value} {cs ds : List C3} (dt : Int) (h : CV w v cs) (g : CV w u ds) (hsm : CSm cs ds) (hg : CG cs) (hg2 : CG ds) (hl : cs.length ≤ 1048576) :
  Calls Tryz.prog 90 #[γ #[O ι dt, v], γ #[O ι dt, u]] w fun e w' => e = .returned (.bool true) ∧ Ext w w' := by
 obtain ⟨sa, cap, e1, hx⟩ := h
 obtain ⟨ta, dap, e2, hy⟩ := g
 have h : CV w v cs := ⟨sa, cap, e1, hx⟩
 have g : CV w u ds := ⟨ta, dap, e2, hy⟩
 have x0 : Ext w ((w.alloc (χ #[O ι dt, v] 123)).alloc (χ #[O ι dt, u] 123)) := ((Ext.refl w).alloc _ _).alloc _ _
 have HX := hide x0
 have C1 := hide (zs17 (h.keep x0.bl) (g.keep x0.bl) hsm hg hg2 hl)
 clear hx hy h g x0
 subst e1 e2
 go_enter Tryz.func90, Tryz.ntmps90
 go_wp2_with fail
 refine C1.out.mono ?_
 rintro e w1 ⟨rfl, x1⟩
 have HX1 := hide (HX.out.trans x1)
 clear x1
 go_wp2
 go_ret
 exact ⟨rfl, HX1.out⟩
theorem zg14 {w : World} {v u : Value} {ss ts : List St} (h : SV w v ss) (g : SV w u ts) (hsm : SSm ss ts) (hg : SG ss) (hg2 : SG ts) (hl : SL ss 1048576) :
  Calls Tryz.prog 47 #[v, u] w fun e w' => e = .returned (.bool true) ∧ Ext w w' := by
 obtain ⟨sa, cap, rfl, hx⟩ := h
 obtain ⟨ta, dap, rfl, hy⟩ := g
 have HX := hide hx
 have HY := hide hy
 have hl1 := hl.1
 have HSM := hide hsm
 have hdl := hsm.1
 have Hdl := hide hdl
 clear hx hy hsm
 rw [← hdl]
 clear hdl
 go_enter Tryz.func47, Tryz.ntmps47
 go_wp2
 go_loopw [5] (fun i wr => ∃ k : Nat, i = O ι k ∧ k ≤ ss.length ∧ Ext w wr) (fun i _ => ss.length - (intOf i).toNat)
 case atStart => exact ⟨0, rfl, by omega, Ext.refl w⟩
 case round =>
  obtain ⟨k, rfl, hk, hw⟩ := hrel
  have HW := hide hw
  clear hw
  by_cases hlt : k < ss.length
  ·rcases HX.out with h0 | ⟨b, off, rfl, hrow⟩
   ·rw [h0] at hlt; simp at hlt
   rcases HY.out with h0 | ⟨b2, off2, rfl, hrow2⟩
   ·rw [Hdl.out, h0] at hlt; simp at hlt
   have hlt2 : k < ts.length := by rw [← Hdl.out]; exact hlt
   obtain ⟨q0, u1, q1, c1⟩ := (hrow.keep HW.out.bl) k hlt
   obtain ⟨r0, u2, r1, c2⟩ := (hrow2.keep HW.out.bl) k hlt2
   have hgk := hg.at k hlt
   have HG2 := hide (hg2.at k hlt2)
   obtain ⟨m1, m2⟩ := HSM.out.2 k hlt
   rw [← m1] at r0
   have m3 := m2.1
   have HM2 := hide m2
   have hlk := hl.at k hlt
   have hk0 : (0 : Int) ≤ (k : Int) := Int.natCast_nonneg _
   have hk1 : (k : Int) < (ss.length : Int) := by omega
   have C1 := hide c1
   have C2 := hide c2
   have HG := hide hgk
   clear c1 c2 hgk m1 m2
   generalize (ss.getD k s0).1 = A at q0 r0
   generalize (ss.getD k s0).2 = cs at C1 HG hlk HM2 m3
   generalize (ts.getD k s0).2 = ds at C2 HG2 HM2 m3
   clear hrow hrow2
   obtain ⟨s1, d1, rfl, _⟩ := C1.out
   obtain ⟨s2, d2, rfl, _⟩ := C2.out
   rw [← m3] at r1
   have SA : Hid ((fun w' => w'.cell? ⟨b, off + k * 2, none⟩ = some (O ι A) ∧ w'.cell? ⟨b, off + k * 2 + 1, none⟩ = some (σ s1 cs.length d1) ∧ w'.cell? ⟨b2, off2 + k * 2, none⟩ = some (O ι A) ∧ w'.cell? ⟨b2, off2 + k * 2 + 1, none⟩ = some (σ s2 cs.length d2)) wr.drew) := ⟨q0, q1, r0, r1⟩
   have xd : Ext wr wr.drew := (Ext.refl wr).drew
   have CC := hide (zr17 A (C1.out.keep xd.bl) (C2.out.keep xd.bl) HM2.out HG.out HG2.out hlk)
   rw [← m3] at CC
   clear m3
   clear xd
   go_wp2_with fail
   go_region_held3 (fun w' => w'.cell? ⟨b, off + k * 2, none⟩ = some (O ι A) ∧ w'.cell? ⟨b, off + k * 2 + 1, none⟩ = some (σ s1 cs.length d1) ∧ w'.cell? ⟨b2, off2 + k * 2, none⟩ = some (O ι A) ∧ w'.cell? ⟨b2, off2 + k * 2 + 1, none⟩ = some (σ s2 cs.length d2)) (first | with_reducible exact SA.out | with_reducible exact SB'.out | exact SA.out | exact SB'.out | fail) (first | (go_at_call 90; refine CC.out.mono ?_; rintro e w2 ⟨rfl, x2⟩; have HW2 := hide (HW.out.drew.trans x2); have SB' : Hid ((fun w' => w'.cell? ⟨b, off + k * 2, none⟩ = some (O ι A) ∧ w'.cell? ⟨b, off + k * 2 + 1, none⟩ = some (σ s1 cs.length d1) ∧ w'.cell? ⟨b2, off2 + k * 2, none⟩ = some (O ι A) ∧ w'.cell? ⟨b2, off2 + k * 2 + 1, none⟩ = some (σ s2 cs.length d2)) w2) := ⟨x2.box q0, x2.box q1, x2.box r0, x2.box r1⟩; clear x2) | fail)
   go_wp2
   go_roundw
   ·exact ⟨k + 1, by go_num, by omega, HW2.out⟩
   ·simp [intOf]; omega
  ·have hkk : k = ss.length := by omega
   subst hkk
   go_wp2
   go_ret
   exact ⟨rfl, HW.out⟩
theorem zb20 {w : World} {v u : Value} {ss ts : List St} (h : SV w v ss) (g : SV w u ts) (hsm : SSm ss ts) (hg : SG ss) (hg2 : SG ts) (hl : SL ss 1048576) :
  Calls Tryz.prog 13 #[γ #[v], γ #[u]] w fun e w' => e = .returned (.bool true) ∧ Ext w w' := by
 obtain ⟨sa, cap, e1, hx⟩ := h
 obtain ⟨ta, dap, e2, hy⟩ := g
 have h : SV w v ss := ⟨sa, cap, e1, hx⟩
 have g : SV w u ts := ⟨ta, dap, e2, hy⟩
 have x0 : Ext w ((w.alloc (χ #[v] 34)).alloc (χ #[u] 34)) := ((Ext.refl w).alloc _ _).alloc _ _
 have HX := hide x0
 have C1 := hide (zg14 (h.keep x0.bl) (g.keep x0.bl) hsm hg hg2 hl)
 clear hx hy h g x0
 subst e1 e2
 go_enter Tryz.func13, Tryz.ntmps13
 go_wp2_with fail
 refine C1.out.mono ?_
 rintro e w1 ⟨rfl, x1⟩
 have HX1 := hide (HX.out.trans x1)
 clear x1
 go_wp2
 go_ret
 exact ⟨rfl, HX1.out⟩
def Ar.open (U : Nat → Value) (ss : List St) (a : Ar) : List Value := openC a.xs a.sv a.off a.st (ss.getD a.st.toNat s0).1 (U a.st.toNat)
theorem Ar.open_len (U : Nat → Value) (ss : List St) (a : Ar) : (a.open U ss).length = 13 := rfl
def openF (U : Nat → Value) (ss : List St) : List Ar → List Value
 | [] => []
 | a :: al => a.open U ss ++ openF U ss al
theorem zv18 (U : Nat → Value) (ss : List St) (al bl : List Ar) : openF U ss (al ++ bl) = openF U ss al ++ openF U ss bl := by
 induction al with
 | nil => rfl
 | cons a al ih => rw [List.cons_append, openF, openF, ih, List.append_assoc]
theorem zu18 (U : Nat → Value) (ss : List St) (al : List Ar) : ∀ j i, j < al.length → i < 13 → (openF U ss al)[j * 13 + i]? = ((al.getD j a0A).open U ss)[i]? := by
 induction al with
 | nil => intro j i hj; simp at hj
 | cons a al ih =>
  intro j i hj hi
  match j with
  | 0 => rw [openF, List.getElem?_append_left (by rw [Ar.open_len]; omega), Nat.zero_mul, Nat.zero_add]; rfl
  | j + 1 =>
   rw [openF, List.getElem?_append_right (by rw [Ar.open_len]; omega), Ar.open_len, List.getD_cons_succ, ← ih j i (by simpa using hj) hi]
   congr 1; omega
theorem za18 (U : Nat → Value) (ss : List St) (al : List Ar) {k : Nat} (hk : k < al.length) : openF U ss (al.take (k + 1)) = openF U ss (al.take k) ++ (al.getD k a0A).open U ss := by
 rw [List.take_add_one, List.getElem?_eq_getElem hk, zv18]
 congr 1
 rw [List.getD_eq_getElem?_getD, List.getElem?_eq_getElem hk]
 show openF U ss [al[k]] = _
 rw [openF, openF, List.append_nil]; rfl
theorem SV.stores {w : World} {v : Value} {ss : List St} (h : SV w v ss) : ∃ U : Nat → Value, (∀ j, j < ss.length → CV w (U j) (ss.getD j s0).2) ∧
  (ss = [] ∨ ∃ b off cap, v = σ (some ⟨b, off, none⟩) ss.length cap ∧ ∀ j, j < ss.length → w.cell? ⟨b, off + j * 2, none⟩ = some (O ι (ss.getD j s0).1) ∧ w.cell? ⟨b, off + j * 2 + 1, none⟩ = some (U j)) := by
 obtain ⟨sa, cap, rfl, h⟩ := h
 rcases h with rfl | ⟨b, off, rfl, h⟩
 ·exact ⟨fun _ => σ none 0 0, fun j hj => by simp at hj, Or.inl rfl⟩
 ·refine ⟨fun j => if hj : j < ss.length then Classical.choose (h j hj).2 else σ none 0 0, fun j hj => ?_, Or.inr ⟨b, off, cap, rfl, fun j hj => ?_⟩⟩
  ·simp only [dif_pos hj]; exact (Classical.choose_spec (h j hj).2).2
  ·simp only [dif_pos hj]; exact ⟨(h j hj).1, (Classical.choose_spec (h j hj).2).1⟩
def OpenNOk (w : World) (ss : List St) (al : List Ar) (e : Ending) (w' : World) : Prop :=
 ∃ v, e = .returned (.tuple #[v, O ι (firstL ss al)]) ∧ Bel w w' ∧ (firstL ss al ≠ 0 ∨
  ∃ g cap U, v = σ (some ⟨g, 0, none⟩) al.length cap ∧ w.heap.size ≤ g ∧ (∀ a ∈ al, a.Good ss) ∧ (∀ j, j < ss.length → CV w (U j) (ss.getD j s0).2) ∧ ∀ j i x, j < al.length → ((al.getD j a0A).open U ss)[i]? = some x → w'.cell? ⟨g, j * 13 + i, none⟩ = some x)
theorem zt18 {w : World} {v : Value} {ss : List St} {ga oa cp : Nat} {al : List Ar} (h : SV w v ss) (hg : SG ss) (hl : SL ss 1048576) (ha : ARow w ga oa al) (hal : ∀ a ∈ al, a.Len) (hn0 : 0 < al.length) (hn : al.length ≤ 1000) :
  Calls Tryz.prog 34 #[γ #[v], σ (some ⟨ga, oa, none⟩) al.length cp] w fun e w' => OpenNOk w ss al e w' := by
 obtain ⟨i77, hi77, hy0, hy1, hy2⟩ := info_parts zr26
 obtain ⟨U, hU, hUr⟩ := h.stores
 obtain ⟨sa, cap, rfl, hx⟩ := h
 have h : SV w (σ sa ss.length cap) ss := ⟨sa, cap, rfl, hx⟩
 have x0 : Ext w (w.alloc (χ #[σ sa ss.length cap] 34)) := (Ext.refl w).alloc _ _
 have n1 := fun j => zd w #[σ sa ss.length cap] 34 w.heap.size rfl j
 have C0 : Hid ((w.alloc (χ #[σ sa ss.length cap] 34)).cell? ⟨w.heap.size, 0, none⟩ = some (σ sa ss.length cap)) := n1 0
 have X0 := hide x0
 have HH := hide (h.keep x0.bl)
 have hvh := hide (zn24 HH.out hg hl)
 have hl1 := hl.1
 have HUr := hide hUr
 have HU := hide hU
 have HA := hide ha
 clear hx h x0 n1 hU hUr ha
 generalize hW0 : (w.alloc (χ #[σ sa ss.length cap] 34)) = W0 at C0 X0 HH hvh
 have HW0 := hide hW0
 clear hW0
 cases hV : vHeap ss with
 | false =>
  have ho : Hid (firstL ss al = 1) := by show _ = _; unfold firstL; rw [if_neg (by rw [hV]; simp)]
  rw [hV] at hvh
  go_enter Tryz.func34, Tryz.ntmps34
  go_wp2_with (go_at_call 76; rw [HW0.out]; refine hvh.out.mono ?_; rintro e w1 ⟨rfl, x1⟩)
  refine bodyPost_ret (results_tmp2 rfl _ _ _) rfl ?_
  unfold OpenNOk
  rw [ho.out]
  exact ⟨_, rfl, (X0.out.trans x1).bl, Or.inl (by omega)⟩
 | true =>
  have ho : Hid (firstL ss al = if ∀ a ∈ al, a.Good ss then 0 else 2) := by show _ = _; unfold firstL; rw [if_pos hV]
  rw [hV] at hvh
  go_enter Tryz.func34, Tryz.ntmps34
  go_wp2_with fail
  rw [HW0.out]
  refine hvh.out.mono ?_
  rintro e w1 ⟨rfl, x1⟩
  have hmk := run_make (P := Tryz.prog) w1 75 85 i77 (γ #[O ι 0, O ι 0, O ι 0, O ι 0, O ι 0, O ι 0, O ι 0, O ι 0, O ι 0, O ι 0, O ι 0, O ι 0, σ none 0 0]) Tryz.underlying75 hi77 hy0 .i64 .i64 0 al.length (by omega) (by omega) (by rw [hy2]; omega) (by omega)
  simp only [Int.toNat_natCast] at hmk
  rw [hy1] at hmk
  have S0 := World.ownsRow_made (base := w1.heap.size) (e := 85) (size := 13) w1 (madeCells #[O ι 0, O ι 0, O ι 0, O ι 0, O ι 0, O ι 0, O ι 0, O ι 0, O ι 0, O ι 0, O ι 0, O ι 0, σ none 0 0] (al.length * 13)) al.length (Nat.le_refl _) (by unfold maxLen; omega) (by simp [madeCells])
  have xm : Ext w1 (w1.alloc (χ (madeCells #[O ι 0, O ι 0, O ι 0, O ι 0, O ι 0, O ι 0, O ι 0, O ι 0, O ι 0, O ι 0, O ι 0, O ι 0, σ none 0 0] (al.length * 13)) 85)) := (Ext.refl w1).alloc _ _
  have X1 := hide (X0.out.trans x1)
  have CM := hide (x1.box C0.out)
  have HOwn := hide S0
  have XM := hide xm.bl
  clear x1 xm S0 C0 HH X0 hvh HW0
  go_wp2_with fail
  generalize hWm : w1.alloc (χ (madeCells #[O ι 0, O ι 0, O ι 0, O ι 0, O ι 0, O ι 0, O ι 0, O ι 0, O ι 0, O ι 0, O ι 0, O ι 0, σ none 0 0] (al.length * 13)) 85) = Wm at HOwn XM ⊢
  clear hWm hmk
  generalize hBB : w1.heap.size = BB at HOwn ⊢
  go_loopw [6, 20] (fun o i wr => ∃ k : Nat, i = O ι k ∧ k ≤ al.length ∧ (∀ j, j < k → (al.getD j a0A).Good ss) ∧ Bel w1 wr ∧ wr.ownsRow BB 85 13 o k (openF U ss (al.take k))) (fun o i _ => al.length - (intOf i).toNat)
  case atStart => exact ⟨0, rfl, by omega, fun j hj => by omega, XM.out, by rw [List.take_zero]; exact HOwn.out⟩
  case round =>
   obtain ⟨k, rfl, hk, hgd, hB, hown⟩ := hrel
   have HO := hide hown
   have HB := hide hB
   have HGd := hide hgd
   clear hown hgd
   by_cases hkn : k < al.length
   ·obtain ⟨vS, vT, q0, q1, q2, q3, i1, i2⟩ := HA.out k hkn
    have hBw : Bel w wr := Bel.tr X1.out.bl hB
    have q0 := Bel.box hBw q0
    have q1 := Bel.box hBw q1
    have q2 := Bel.box hBw q2
    have q3 := Bel.box hBw q3
    have i1 := zk i1 hBw
    have i2 := zk i2 hBw
    have hlen := hal _ (show al.getD k a0A ∈ al by rw [List.getD_eq_getElem?_getD, List.getElem?_eq_getElem hkn]; exact List.getElem_mem _)
    have c0 := Bel.box hB CM.out
    have HBW := hide hBw
    have hno : Hid (¬ (al.getD k a0A).Good ss → firstL ss al = 2) := fun q => by
     rw [ho.out, if_neg (fun z => q (z _ (by rw [List.getD_eq_getElem?_getD, List.getElem?_eq_getElem hkn]; exact List.getElem_mem _)))]
    have hnx : Hid ((al.getD k a0A).Good ss → ∀ j, j < k + 1 → (al.getD j a0A).Good ss) := fun q j hj => by
     by_cases e : j = k
     ·rw [e]; exact q
     ·exact HGd.out j (by omega)
    have HTK := hide (za18 U ss al hkn)
    have kk0 : (0 : Int) ≤ (k : Int) := Int.natCast_nonneg _
    have kk1 : (k : Int) < (al.length : Int) := by omega
    generalize al.getD k a0A = a at q0 q1 q2 q3 i1 i2 hlen hno hnx HTK
    obtain ⟨st, xs, sv, off⟩ := a
    simp only at q0 q1 q2 q3 i1 i2
    have lx : xs.length ≤ 1048576 := hlen.1
    have ls : sv.length ≤ 1048576 := hlen.2
    have HI1 := hide i1
    have HI2 := hide i2
    obtain ⟨s1, d1, rfl, _⟩ := i1
    obtain ⟨s2, d2, rfl, _⟩ := i2
    clear hB hBw hlen HGd
    have xa : Ext wr (wr.alloc (χ #[O ι st, σ s1 xs.length d1, σ s2 sv.length d2, O ι off] 41)) := (Ext.refl wr).alloc _ _
    have c0a := xa.box c0
    by_cases h1 : st < 0
    ·have hno := hide (hno.out (fun q => by have := q.1.1; simp at this; omega))
     have hd : decide (st < 0) = true := decide_eq_true h1
     go_wp2
     refine bodyPost_ret (results_tmp2 rfl _ _ _) rfl ?_
     unfold OpenNOk
     rw [hno.out]
     exact ⟨_, rfl, Bel.tr HBW.out xa.bl, Or.inl (by omega)⟩
    have hd1 : decide (st < 0) = false := decide_eq_false h1
    by_cases h2 : (ss.length : Int) ≤ st
    ·have hno := hide (hno.out (fun q => by have := q.1.2; simp at this; omega))
     have hd : decide ((ss.length : Int) ≤ st) = true := decide_eq_true h2
     go_wp2
     refine bodyPost_ret (results_tmp2 rfl _ _ _) rfl ?_
     unfold OpenNOk
     rw [hno.out]
     exact ⟨_, rfl, Bel.tr HBW.out xa.bl, Or.inl (by omega)⟩
    have hd2 : decide ((ss.length : Int) ≤ st) = false := decide_eq_false h2
    obtain ⟨m, rfl⟩ : ∃ m : Nat, st = (m : Int) := ⟨st.toNat, by omega⟩
    have hm : m < ss.length := by omega
    have hm0 : (0 : Int) ≤ (m : Int) := Int.natCast_nonneg _
    have hm1 : (m : Int) < (ss.length : Int) := by omega
    rcases HUr.out with h0 | ⟨bs, os, cap', eb, hrow⟩
    ·rw [h0] at hm; simp at hm
    injection eb with eb1 _ eb2
    subst eb1 eb2
    obtain ⟨t0, t1⟩ := hrow m hm
    have q4 := Bel.box HBW.out t0
    have q5 := Bel.box HBW.out t1
    have q4a := xa.box q4
    have q5a := xa.box q5
    have hcl := hl.at m hm
    have CVm := HU.out m hm
    obtain ⟨su, cu, hUm, _⟩ := CVm
    rw [hUm] at q5 q5a
    have hgood : Hid (ValidV xs sv off → (Ar.Good ss ⟨m, xs, sv, off⟩ ↔ inN xs sv off ((ss.getD m s0).2.length : Int) = true)) := fun hv => by
     rw [← zq24 hv]
     unfold Ar.Good GoodA
     simp only [Int.toNat_natCast]
     exact ⟨fun q => q.2.2, fun q => ⟨⟨hm0, hm1⟩, hv, q⟩⟩
    have hbadv : Hid (¬ ValidV xs sv off → ¬ Ar.Good ss ⟨m, xs, sv, off⟩) := fun q1 q2 => q1 q2.2.1
    have HOP : Hid (Ar.open U ss ⟨m, xs, sv, off⟩ = openC xs sv off m (ss.getD m s0).1 (σ su (ss.getD m s0).2.length cu)) := by
     show _ = _
     unfold Ar.open
     simp only [Int.toNat_natCast]
     rw [hUm]
    clear hrow t0 t1 hUm
    generalize (ss.getD m s0).1 = DT at q4 q4a HOP
    generalize (ss.getD m s0).2 = cs at q5 q5a hgood hcl HOP
    have xb : Ext (wr.alloc (χ #[O ι (m : Int), σ s1 xs.length d1, σ s2 sv.length d2, O ι off] 41)) ((wr.alloc (χ #[O ι (m : Int), σ s1 xs.length d1, σ s2 sv.length d2, O ι off] 41)).alloc (χ #[O ι DT, σ su cs.length cu] 123)) := (Ext.refl _).alloc _ _
    have xab := xa.trans xb
    have hfix := hide (ze14 (HI1.out.ext xab) (HI2.out.ext xab) off lx ls)
    have na := fun j => zd wr #[O ι (m : Int), σ s1 xs.length d1, σ s2 sv.length d2, O ι off] 41 wr.heap.size rfl j
    have nb := fun j => zd (wr.alloc (χ #[O ι (m : Int), σ s1 xs.length d1, σ s2 sv.length d2, O ι off] 41)) #[O ι DT, σ su cs.length cu] 123 (wr.heap.size + 1) (by simp) j
    have NA0 : Hid (((wr.alloc (χ #[O ι (m : Int), σ s1 xs.length d1, σ s2 sv.length d2, O ι off] 41)).alloc (χ #[O ι DT, σ su cs.length cu] 123)).cell? ⟨wr.heap.size, 0, none⟩ = some (O ι (m : Int))) := xb.box (na 0)
    have NB0 : Hid (((wr.alloc (χ #[O ι (m : Int), σ s1 xs.length d1, σ s2 sv.length d2, O ι off] 41)).alloc (χ #[O ι DT, σ su cs.length cu] 123)).cell? ⟨wr.heap.size + 1, 0, none⟩ = some (O ι DT)) := nb 0
    have NB1 : Hid (((wr.alloc (χ #[O ι (m : Int), σ s1 xs.length d1, σ s2 sv.length d2, O ι off] 41)).alloc (χ #[O ι DT, σ su cs.length cu] 123)).cell? ⟨wr.heap.size + 1, 1, none⟩ = some (σ su cs.length cu)) := nb 1
    have XAB := hide xab
    clear xa xb xab na nb
    by_cases hv : ValidV xs sv off
    ·have hdv : (dcValidV xs sv off) = true := dcValidV_t hv
     have hgv := hide (hgood.out hv)
     have HV := hide hv
     clear hv
     clear hgood hbadv
     go_wp2_with fail
     refine hfix.out.mono ?_
     rintro e w4 ⟨A, rfl, hA, _, x4⟩
     obtain rfl := hA HV.out
     rw [hdv]
     have p0 := x4.box NA0.out
     have p1 := x4.box NB0.out
     have p2 := x4.box NB1.out
     have X4 := hide (XAB.out.trans x4)
     clear x4 hfix NA0 NB0 NB1 XAB
     have hr := HV.out.1.2.1
     have hx4 := HV.out.1.1
     have hl2 := HV.out.2.1
     have ho2 := HV.out.2.2.1
     have hs2 := HV.out.2.2.2.1
     have xf : Ext w4 (w4.alloc (χ (vw xs sv off) 83)) := (Ext.refl w4).alloc _ _
     have hwi := hide (zo20 (cs.length : Int) ⟨by omega, by omega⟩ (w4.alloc (χ (vw xs sv off) 83)) xs sv off hx4 hr hl2 hs2 ho2)
     have p0f := xf.box p0
     have p1f := xf.box p1
     have p2f := xf.box p2
     have nf := fun j => zd w4 (vw xs sv off) 83 w4.heap.size rfl j
     have NF := hide nf
     have X5 := hide (X4.out.trans xf)
     clear xf nf hr hx4 hl2 ho2 hs2
     have HC : Hid (∀ (st dt : Int) (u : Value), openC xs sv off st dt u = [O ι xs.length, O ι (xs.getD 0 0), O ι (xs.getD 1 0), O ι (xs.getD 2 0), O ι (xs.getD 3 0), O ι (sv.getD 0 0), O ι (sv.getD 1 0), O ι (sv.getD 2 0), O ι (sv.getD 3 0), O ι off, O ι st, O ι dt, u]) := fun _ _ _ => rfl
     unfold vw at p0f p1f p2f hwi NF X5 ⊢
     generalize xs.getD 0 0 = a0 at p0f p1f p2f hwi NF X5 HC ⊢
     generalize xs.getD 1 0 = a1 at p0f p1f p2f hwi NF X5 HC ⊢
     generalize xs.getD 2 0 = a2 at p0f p1f p2f hwi NF X5 HC ⊢
     generalize xs.getD 3 0 = a3 at p0f p1f p2f hwi NF X5 HC ⊢
     generalize sv.getD 0 0 = b0 at p0f p1f p2f hwi NF X5 HC ⊢
     generalize sv.getD 1 0 = b1 at p0f p1f p2f hwi NF X5 HC ⊢
     generalize sv.getD 2 0 = b2 at p0f p1f p2f hwi NF X5 HC ⊢
     generalize sv.getD 3 0 = b3 at p0f p1f p2f hwi NF X5 HC ⊢
     cases hin : inN xs sv off (cs.length : Int) with
     | false =>
      have hno := hide (hno.out (fun q => by have := hgv.out.1 q; rw [hin] at this; cases this))
      rw [hin] at hwi
      go_wp2_with (go_at_call 78; refine hwi.out.mono ?_; rintro e w6 ⟨rfl, x6⟩)
      refine bodyPost_ret (results_tmp2 rfl _ _ _) rfl ?_
      unfold OpenNOk
      rw [hno.out]
      exact ⟨_, rfl, Bel.tr HBW.out (X5.out.trans x6).bl, Or.inl (by omega)⟩
     | true =>
      have hG := hide (hnx.out (hgv.out.2 hin))
      rw [hin] at hwi
      go_wp2_with fail
      refine hwi.out.mono ?_
      rintro e w6 ⟨rfl, x6⟩
      have r0 := x6.box p0f
      have r1 := x6.box p1f
      have r2 := x6.box p2f
      have f0 := x6.box (NF.out 0)
      have f1 := x6.box (NF.out 1)
      have f2 := x6.box (NF.out 2)
      have f3 := x6.box (NF.out 3)
      have f4 := x6.box (NF.out 4)
      have f5 := x6.box (NF.out 5)
      have f6 := x6.box (NF.out 6)
      have f7 := x6.box (NF.out 7)
      have f8 := x6.box (NF.out 8)
      have f9 := x6.box (NF.out 9)
      have X6 := hide (X5.out.trans x6)
      clear x6 hwi NF p0f p1f p2f
      have HO6 := hide (zr23 HO.out X6.out)
      have hsz6 : BB ≤ (w6.alloc (χ #[O ι xs.length, O ι a0, O ι a1, O ι a2, O ι a3, O ι b0, O ι b1, O ι b2, O ι b3, O ι off, O ι (m : Int), O ι DT, σ su cs.length cu] 85)).heap.size := by rw [← hBB]; exact Below.size (Bel.tr HB.out (X6.out.alloc _ _).bl)
      have hnew : ∀ j x, ([O ι xs.length, O ι a0, O ι a1, O ι a2, O ι a3, O ι b0, O ι b1, O ι b2, O ι b3, O ι off, O ι (m : Int), O ι DT, σ su cs.length cu] : List Value)[j]? = some x → (w6.alloc (χ #[O ι xs.length, O ι a0, O ι a1, O ι a2, O ι a3, O ι b0, O ι b1, O ι b2, O ι b3, O ι off, O ι (m : Int), O ι DT, σ su cs.length cu] 85)).cell? ((⟨w6.heap.size, 0, none⟩ : Addr).add j) = some x := fun j x hx => by
       have n1 := fun j => zd w6 #[O ι xs.length, O ι a0, O ι a1, O ι a2, O ι a3, O ι b0, O ι b1, O ι b2, O ι b3, O ι off, O ι (m : Int), O ι DT, σ su cs.length cu] 85 w6.heap.size rfl j
       rw [Addr.add_lit, Nat.zero_add, n1 j]
       simpa using hx
      have hone : ∀ x ∈ ([O ι xs.length, O ι a0, O ι a1, O ι a2, O ι a3, O ι b0, O ι b1, O ι b2, O ι b3, O ι off, O ι (m : Int), O ι DT, σ su cs.length cu] : List Value), x.oneCell' = true := fun x hx => by
       simp only [List.mem_cons, List.not_mem_nil, or_false] at hx
       rcases hx with rfl | rfl | rfl | rfl | rfl | rfl | rfl | rfl | rfl | rfl | rfl | rfl | rfl <;> rfl
      have Hsz6 := hide hsz6
      have Hnew := hide hnew
      have Hone := hide hone
      clear hsz6 hnew hone
      go_wp2_with (at_builtin; (refine wpList_append_own_at _ rfl _ _ 75 rfl BB 85 i77 (γ #[O ι 0, O ι 0, O ι 0, O ι 0, O ι 0, O ι 0, O ι 0, O ι 0, O ι 0, O ι 0, O ι 0, O ι 0, σ none 0 0]) 13 120 Tryz.underlying75 hi77 hy0 hy1 hy2 rfl (by decide) _ _ _ rfl (HO6.out.alloc _) ⟨w6.heap.size, 0, none⟩ 1 1 [O ι xs.length, O ι a0, O ι a1, O ι a2, O ι a3, O ι b0, O ι b1, O ι b2, O ι b3, O ι off, O ι (m : Int), O ι DT, σ su cs.length cu] rfl rfl Hnew.out Hone.out (by unfold maxLen; omega) (by omega) Hsz6.out ?_); intro v9 w9 hown9 hgrow9 hnil9 hat9; have HO9 := hide hown9; have HG9 := hide hgrow9; clear hown9 hgrow9 hnil9 hat9)
      have BEL : Bel w1 w9 := Below.grown (Bel.tr HB.out (X6.out.alloc _ _).bl) HG9.out (by rw [hBB]; exact Hsz6.out) (fun j hj => by rw [hBB]; exact (HO.out.lt j hj).1)
      have HBEL := hide BEL
      clear BEL
      go_roundw
      ·refine ⟨k + 1, by go_num, by omega, hG.out, HBEL.out, ?_⟩
       rw [HTK.out, HOP.out, HC.out]
       exact HO9.out
      ·simp [intOf]; omega
    ·have hdv : (dcValidV xs sv off) = false := dcValidV_f hv
     have hno := hide (hno.out (hbadv.out hv))
     clear hv
     go_wp2_with fail
     refine hfix.out.mono ?_
     rintro e w4 ⟨A, rfl, _, ⟨a0, a1, a2, a3, a4, a5, a6, a7, a8, a9, rfl⟩, x4⟩
     rw [hdv]
     go_wp2
     refine bodyPost_ret (results_tmp2 rfl _ _ _) rfl ?_
     unfold OpenNOk
     rw [hno.out]
     exact ⟨_, rfl, Bel.tr HBW.out ((XAB.out.trans x4).alloc _ _).bl, Or.inl (by omega)⟩
   ·have hkk : k = al.length := by omega
    subst hkk
    have hall : Hid (∀ a ∈ al, a.Good ss) := fun a ha => by
     obtain ⟨j, hj, e⟩ := List.mem_iff_getElem.1 ha
     have := HGd.out j hj
     rw [List.getD_eq_getElem?_getD, List.getElem?_eq_getElem hj] at this
     rw [← e]; exact this
    go_wp2
    refine bodyPost_ret (results_tmp2 rfl _ _ _) rfl ?_
    unfold OpenNOk
    rw [ho.out, if_pos hall.out]
    obtain ⟨g, cap', rfl, hgb⟩ := zq18 HO.out hn0
    have hown := HO.out
    rw [List.take_length] at hown
    refine ⟨_, rfl, Bel.tr X1.out.bl HB.out, Or.inr ⟨g, cap', U, rfl, ?_, hall.out, HU.out, fun j i x hj hx => ?_⟩⟩
    ·have := Below.size X1.out.bl
     omega
    ·have hi : i < 13 := by
      have := (List.getElem?_eq_some_iff.1 hx).1
      rwa [Ar.open_len] at this
     rw [← zu18 U ss al j i hj hi] at hx
     exact (hown.cellAt _ (by omega)).trans hx
theorem zx {xs sv : List Int} {off : Int} (hv : ValidV xs sv off) : (offsL xs sv off).length = (prod xs).toNat := by
 unfold offsL
 split
 ·next h => rw [h]; rfl
 ·rw [zq1 xs sv off hv.2.1.symm]
  have h1 := zw (fun m hm => (zy hv.1 m hm).1)
  omega
def Ar.dt (ss : List St) (a : Ar) : Int := (ss.getD a.st.toNat s0).1
def Ar.rd (ss : List St) (a : Ar) : List C3 := readL ss a.st a.xs a.sv a.off
def Ar.offs (a : Ar) : List Int := offsL a.xs a.sv a.off
def fitB (a b o : Ar) : Bool := decide (b.xs.length = 1 ∧ a.xs = [b.xs.getD 0 0, b.xs.getD 0 0] ∧ b.xs = o.xs)
def dblB (ss : List St) (a b o : Ar) : Bool := decide (a.dt ss = 8 ∧ b.dt ss = 8 ∧ o.dt ss = 8)
def solN (b : Ar) : Nat := (b.xs.getD 0 0).toNat
def sys0 (ss : List St) (a b : Ar) : Sys := ((List.range (solN b)).map fun i => laneF (a.rd ss) (solN b) i, (b.rd ss).map (·.2.1))
def solveC (ss : List St) (a b o : Ar) : Int :=
 if firstL ss [a, b, o] ≠ 0 then firstL ss [a, b, o]
 else if dblB ss a b o = false then 4
 else if fitB a b o = false then 6
 else if WrV o.xs o.sv o.off then (if ((sys0 ss a b).elim (solN b)).isSome then 0 else 11)
 else 9
def SolveOk (ss : List St) (a b o : Ar) (c : Int) (ts : List St) : Prop := c = solveC ss a b o ∧ ((c ≠ 0 ∧ ts = []) ∨ (c = 0 ∧ o.Good ss ∧ ∃ t1 X, (sys0 ss a b).elim (solN b) = some t1 ∧ X.length = solN b ∧ SmL X (t1.back (solN b)) ∧ (∀ j, B64 (X.getD j 0)) ∧ ts = putS ss o.st.toNat o.offs X o.offs.length))
def flatR (A : Nat → Value) (Bf : List Nat) : Nat → List Value
 | 0 => []
 | k + 1 => flatR A Bf k ++ [A k, .float .f64 (Bf.getD k 0)]
structure LrSt (w0 : World) (n : Nat) (RL : List C3) (Bf : List Nat) (k : Nat) (rv : Value) (A : Nat → Value) (bs cps : Nat → Nat) (W : World) : Prop where
 own : W.ownsRow w0.heap.size 69 2 rv k (flatR A Bf k)
 a : ∀ i, i < k → A i = σ (some ⟨bs i, 0, none⟩) n (cps i)
 row : ∀ i, i < k → FRow W (bs i) (laneF RL n i) ∧ (laneF RL n i).length = n
 lt : ∀ i, i < k → w0.heap.size ≤ bs i ∧ bs i < W.heap.size ∧ rv.ownBlock ≠ some (bs i)
 inc : ∀ i j, i < j → j < k → bs i < bs j
 bl : Bel w0 W
def AV (w : World) (v : Value) (a : Ar) : Prop := ∃ p c q d, v = γ #[O ι a.st, σ p a.xs.length c, σ q a.sv.length d, O ι a.off] ∧ Ints w (σ p a.xs.length c) a.xs ∧ Ints w (σ q a.sv.length d) a.sv ∧ a.Len
structure SBx (w : World) (B : Nat) (hv : Value) (A1 A2 A3 : List Value) (W : World) : Prop where
 h : W.cell? ⟨B, 0, none⟩ = some hv
 a : ∀ j x, A1[j]? = some x → W.cell? ⟨B + 1, j, none⟩ = some x
 b : ∀ j x, A2[j]? = some x → W.cell? ⟨B + 2, j, none⟩ = some x
 o : ∀ j x, A3[j]? = some x → W.cell? ⟨B + 3, j, none⟩ = some x
 r0 : W.cell? ⟨B + 4, 0, none⟩ = some (O ι 0)
 r1 : W.cell? ⟨B + 4, 1, none⟩ = some (σ none 0 0)
 fz : ∀ j, W.frozen? ⟨B + 4, j, none⟩ = false
 bl : Bel w W
 sz : w.heap.size + 5 ≤ W.heap.size
def flv (L : List Nat) : List Value := L.map (.float .f64)
def RsOk (w0 : World) (n : Nat) (s : Sys) (e : Ending) (w' : World) : Prop := Bel w0 w' ∧ ((s.elim n = none ∧ ∃ v, e = .returned (.tuple #[v, .bool false])) ∨
 (∃ (t1 : Sys) (sX : Option Addr) (cX : Nat) (X : List Nat), s.elim n = some t1 ∧ e = .returned (.tuple #[σ sX n cX, .bool true]) ∧ (n = 0 ∨ ∃ b, sX = some ⟨b, 0, none⟩ ∧ FRow w' b X) ∧ X.length = n ∧ SmL X (t1.back n) ∧ (∀ j, B64 (X.getD j 0))))
theorem zv15 {w0 W w7 : World} {v : Value} {tmp : Obj} (x : Bel w0 W) (hv : ∀ c, v.ownBlock = some c → w0.heap.size ≤ c) (hg : (W.alloc tmp).grownBy w7 v.ownBlock) : Bel w0 w7 := by
 have hs := hg.size
 rw [World.size_alloc] at hs
 have hx := x.size
 refine ⟨hg.os.trans x.os, hg.tape.trans x.tape, hg.output.trans x.output, by omega, fun b hb => ?_⟩
 rw [hg.block b (by rw [World.size_alloc]; omega) (fun e => by have := hv b e.symm; omega)]
 exact (((Below.refl W.heap.size W).alloc (Nat.le_refl _) tmp).block b (by omega)).trans (x.block b hb)
theorem HSp.far {w : World} {lo g : Nat} {cb : Nat → Nat} {ss : List St} (h : HSp w lo g cb ss) {b o : Nat} (hb : b < lo) (v : Value) : HSp (w.setCell ⟨b, o, none⟩ v) lo g cb ss := by
 have hc : ∀ {c q x}, lo ≤ c → w.cell? ⟨c, q, none⟩ = some x → (w.setCell ⟨b, o, none⟩ v).cell? ⟨c, q, none⟩ = some x := fun {c q x} hl hx => (World.cell?_of_block (w := w) (a := ⟨c, q, none⟩) (Below.heap_setCell _ _ _ _ (by show c ≠ b; omega))).trans hx
 refine ⟨fun j hj => hc h.lo_g (h.dt j hj), fun j hj => ?_, fun j hj hne => ?_, fun j hj hne q => ?_, h.lo_g, h.ne, h.nd⟩
 ·obtain ⟨sa, cap, h1, h2⟩ := h.sl j hj
  exact ⟨sa, cap, hc h.lo_g h1, h2⟩
 ·have hr := h.row j hj hne
  have hl := (h.ne j hj hne).2
  exact fun i hi => ⟨hc hl (hr i hi).1, hc hl (hr i hi).2.1, hc hl (hr i hi).2.2⟩
 ·rw [World.frozen?_setCell]; exact h.fzr j hj hne q
def MSp (w : World) (lo : Nat) (u : Value) (ts : List St) : Prop := (u = σ none 0 0 ∧ ts = []) ∨ ∃ g cap cb, u = σ (some ⟨g, 0, none⟩) ts.length cap ∧ HSp w lo g cb ts
theorem MSp.sv {w : World} {lo : Nat} {u : Value} {ts : List St} (h : MSp w lo u ts) : SV w u ts := by
 rcases h with ⟨rfl, rfl⟩ | ⟨g, cap, cb, rfl, h⟩
 ·exact ⟨none, 0, rfl, Or.inl rfl⟩
 ·exact h.sv
theorem MSp.far {w : World} {lo : Nat} {u : Value} {ts : List St} (h : MSp w lo u ts) {b o : Nat} (hb : b < lo) (v : Value) : MSp (w.setCell ⟨b, o, none⟩ v) lo u ts :=
 h.imp id fun ⟨g, cap, cb, e, h⟩ => ⟨g, cap, cb, e, h.far hb v⟩
end
section
open Go.ChangeShapes Go.RowKit FL Ieee
theorem zj13 (n : Int) : feq (floatOfInt FloatKind.f64 n) (floatOfInt FloatKind.f64 n) = true := by
 rw [zn3]
 have h : nanD (floatOfInt FloatKind.f64 n) = false := by
  show nanW double (double.nearest (decide (n < 0)) n.natAbs 0) = false
  unfold nanW
  rw [decide_eq_false_iff_not]
  have e : ∃ r, r ≤ double.infRung ∧ double.nearest (decide (n < 0)) n.natAbs 0 = double.word (decide (n < 0)) r := by
   unfold Format.nearest
   split
   ·exact ⟨0, Nat.zero_le _, rfl⟩
   ·exact ⟨_, Nat.min_le_right _ _, rfl⟩
  obtain ⟨r, h1, h2⟩ := e
  rw [h2]
  unfold Format.word
  rw [zu27] at *
  rw [zs27]
  split <;> omega
 rw [h]; rfl
attribute [local go_sem] zj13
def cmk (k : Int) (j : Nat) : C3 := (k + 3 * j, floatOfInt FloatKind.f64 (k + 3 * j + 1), floatOfInt FloatKind.f64 (k + 3 * j + 1 + 1))
def ccount (n : Nat) (k : Int) : List C3 := (List.range n).map (cmk k)
theorem zr1 (n : Nat) (k : Int) : (ccount n k).length = n := by simp [ccount]
theorem zf4 (n : Nat) (k : Int) (j : Nat) (hj : j < n) : (ccount n k).getD j k0 = cmk k j := by simp [ccount, List.getD_eq_getElem?_getD, hj]
def Ex (w : World) (g off n : Nat) : Prop := ∀ o, o < 3 * n → ∃ x, w.cell? ⟨g, off + o, none⟩ = some x
def KE (w w' : World) : Prop := ∀ b o x, w.cell? ⟨b, o, none⟩ = some x → ∃ y, w'.cell? ⟨b, o, none⟩ = some y
theorem KE.refl (w : World) : KE w w := fun b o x h => ⟨x, h⟩
theorem KE.trans {a b c : World} (h : KE a b) (g : KE b c) : KE a c := fun k o x hx => by
 obtain ⟨y, hy⟩ := h k o x hx
 exact g k o y hy
theorem KE.set {w w' : World} (h : KE w w') (p : Addr) (v : Value) : KE w (w'.setCell p v) := h.trans fun b o x hx => by
 by_cases e : p = ⟨b, o, none⟩
 ·subst e; exact ⟨v, World.cell?_setCell_same _ _ _ hx⟩
 ·exact ⟨x, by rw [World.cell?_setCell_other _ _ _ _ (by first | exact e | exact fun q => e q.symm)]; exact hx⟩
theorem Ex.ke {w w' : World} {g off n : Nat} (h : Ex w g off n) (x : KE w w') : Ex w' g off n := fun o ho => by
 obtain ⟨y, hy⟩ := h o ho
 exact x _ _ _ hy
theorem CRow.ex {w : World} {g off : Nat} {cs : List C3} (h : CRow w g off cs) : Ex w g off cs.length := fun o ho => by
 obtain ⟨a, b, c⟩ := h (o / 3) (by omega)
 have : o % 3 = 0 ∨ o % 3 = 1 ∨ o % 3 = 2 := by omega
 rcases this with e | e | e
 ·rw [show off + o = off + o / 3 * 3 by omega]; exact ⟨_, a⟩
 ·rw [show off + o = off + o / 3 * 3 + 1 by omega]; exact ⟨_, b⟩
 ·rw [show off + o = off + o / 3 * 3 + 2 by omega]; exact ⟨_, c⟩
theorem zf20 {W : World} {g off j : Nat} {k : Int} {x0 x1 x2 : Value} (h : CRow W g off (ccount j k)) (q0 : W.cell? ⟨g, off + j * 3, none⟩ = some x0) (q1 : W.cell? ⟨g, off + j * 3 + 1, none⟩ = some x1) (q2 : W.cell? ⟨g, off + j * 3 + 2, none⟩ = some x2) :
  CRow (((W.setCell ⟨g, off + j * 3, none⟩ (O ι (k + 3 * j))).setCell ⟨g, off + j * 3 + 1, none⟩ (.float .f64 (floatOfInt FloatKind.f64 (k + 3 * j + 1)))).setCell ⟨g, off + j * 3 + 2, none⟩ (.float .f64 (floatOfInt FloatKind.f64 (k + 3 * j + 1 + 1)))) g off (ccount (j + 1) k) := fun i hi => by
 rw [zr1] at hi
 rw [zf4 (j + 1) k i hi]
 by_cases e : i = j
 ·subst e
  exact ⟨ze1 (by omega) (ze1 (by omega) (World.cell?_setCell_same _ _ _ q0)), ze1 (by omega) (World.cell?_setCell_same _ _ _ (ze1 (by omega) q1)), World.cell?_setCell_same _ _ _ (ze1 (by omega) (ze1 (by omega) q2))⟩
 ·obtain ⟨a, b, c⟩ := h i (by rw [zr1]; omega)
  rw [zf4 j k i (by omega)] at a b c
  exact ⟨ze1 (by omega) (ze1 (by omega) (ze1 (by omega) a)), ze1 (by omega) (ze1 (by omega) (ze1 (by omega) b)), ze1 (by omega) (ze1 (by omega) (ze1 (by omega) c))⟩
theorem zf11 {w : World} {g off n cap : Nat} (h : Ex w g off n) (hf : ∀ o, w.frozen? ⟨g, o, none⟩ = false) (k : Int) (hk : 0 ≤ k ∧ k ≤ 1000000000000000) (hl : n ≤ 1048576) :
  Calls Tryz.prog 92 #[σ (some ⟨g, off, none⟩) n cap, O ι k] w fun e w' => e = .returned (O ι (k + 3 * n)) ∧ CRow w' g off (ccount n k) ∧ Mut g w w' ∧ KE w w' := by
 have H := hide h
 clear h
 go_enter Tryz.func92, Tryz.ntmps92
 go_wp2
 go_loopw [1, 5] (fun m i wr => ∃ j : Nat, i = O ι j ∧ m = O ι (k + 3 * j) ∧ j ≤ n ∧ CRow wr g off (ccount j k) ∧ Mut g w wr ∧ KE w wr) (fun m i _ => n - (intOf i).toNat)
 case atStart => exact ⟨0, rfl, by simp, by omega, fun j hj => by simp [ccount] at hj, Mut.refl _ _, KE.refl _⟩
 case round =>
  obtain ⟨j, rfl, rfl, hj, hr, hm, he⟩ := hrel
  have HR := hide hr
  have HM := hide hm
  have HE := hide he
  clear hr hm he
  by_cases hlt : j < n
  ·obtain ⟨x0, q0⟩ := (H.out.ke HE.out) (j * 3) (by omega)
   obtain ⟨x1, q1⟩ := (H.out.ke HE.out) (j * 3 + 1) (by omega)
   obtain ⟨x2, q2⟩ := (H.out.ke HE.out) (j * 3 + 2) (by omega)
   rw [← Nat.add_assoc] at q1 q2
   have qf := fun o => (HM.out.fz ⟨g, o, none⟩).trans (hf o)
   have hj0 : (0 : Int) ≤ (j : Int) := Int.natCast_nonneg _
   have hj1 : (j : Int) < (n : Int) := by omega
   have HSt := hide (zf20 HR.out q0 q1 q2)
   have p1 : (wr.setCell ⟨g, off + j * 3, none⟩ (O ι (k + 3 * j))).cell? ⟨g, off + j * 3 + 1, none⟩ = _ := ze1 (by omega) q1
   have p2 : ((wr.setCell ⟨g, off + j * 3, none⟩ (O ι (k + 3 * j))).setCell ⟨g, off + j * 3 + 1, none⟩ (.float .f64 (floatOfInt FloatKind.f64 (k + 3 * j + 1)))).cell? ⟨g, off + j * 3 + 2, none⟩ = _ := ze1 (by omega) (ze1 (by omega) q2)
   go_wp2
   go_roundw
   ·exact ⟨j + 1, by go_num, by congr 1; push_cast; omega, by omega, HSt.out, ((HM.out.setCell _ _).setCell _ _).setCell _ _, ((HE.out.set _ _).set _ _).set _ _⟩
   ·simp [intOf]; omega
  ·have hjj : j = n := by omega
   subst hjj
   go_wp2
   go_ret
   exact ⟨rfl, HR.out, HM.out, HE.out⟩
theorem ze11 {w : World} {sa : Option Addr} {cap : Nat} (k : Int) :
  Calls Tryz.prog 92 #[σ sa 0 cap, O ι k] w fun e w' => e = .returned (O ι k) ∧ w' = w := by
 go_enter Tryz.func92, Tryz.ntmps92
 go_wp2
 go_loopw [1, 5] (fun m i wr => i = O ι 0 ∧ m = O ι k ∧ wr = w) (fun m i _ => 0)
 case atStart => exact ⟨rfl, rfl, rfl⟩
 case round =>
  obtain ⟨rfl, rfl, rfl⟩ := hrel
  go_wp2
  go_ret
  exact ⟨rfl, rfl⟩
theorem zv19 {w : World} {v : Value} {n : Nat} (k : Int) (h : CV w v (ccount n k)) (hk : 0 ≤ k ∧ k ≤ 1000000000000000) (hl : n ≤ 1048576) :
  Calls Tryz.prog 127 #[v, O ι k] w fun e w' => e = .returned (O ι (k + 3 * n)) ∧ Ext w w' := by
 obtain ⟨sa, cap, rfl, hx⟩ := h
 rw [zr1]
 have HX := hide hx
 clear hx
 go_enter Tryz.func127, Tryz.ntmps127
 go_wp2
 go_loopw [1, 5] (fun m i wr => ∃ j : Nat, i = O ι j ∧ m = O ι (k + 3 * j) ∧ j ≤ n ∧ Ext w wr) (fun m i _ => n - (intOf i).toNat)
 case atStart => exact ⟨0, rfl, by simp, by omega, Ext.refl w⟩
 case round =>
  obtain ⟨j, rfl, rfl, hj, hw⟩ := hrel
  have HW := hide hw
  clear hw
  by_cases hlt : j < n
  ·rcases HX.out with h0 | ⟨b, off, rfl, hrow⟩
   ·have := congrArg List.length h0
    rw [zr1] at this; simp at this; omega
   have hr := hrow j (by rw [zr1]; exact hlt)
   rw [zf4 n k j hlt] at hr
   have q0 : wr.cell? ⟨b, off + j * 3, none⟩ = some (O ι (k + 3 * j)) := HW.out.box hr.1
   have q1 : wr.cell? ⟨b, off + j * 3 + 1, none⟩ = some (.float .f64 (floatOfInt FloatKind.f64 (k + 3 * j + 1))) := HW.out.box hr.2.1
   have q2 : wr.cell? ⟨b, off + j * 3 + 2, none⟩ = some (.float .f64 (floatOfInt FloatKind.f64 (k + 3 * j + 1 + 1))) := HW.out.box hr.2.2
   have n1 := zj13 (k + 3 * j + 1)
   have n2 := zj13 (k + 3 * j + 1 + 1)
   clear hrow hr
   have hj0 : (0 : Int) ≤ (j : Int) := Int.natCast_nonneg _
   have hj1 : (j : Int) < (n : Int) := by omega
   go_wp2
   go_roundw
   ·exact ⟨j + 1, by go_num, by congr 1; push_cast; omega, by omega, HW.out⟩
   ·simp [intOf]; omega
  ·have hjj : j = n := by omega
   subst hjj
   go_wp2
   go_ret
   exact ⟨rfl, HW.out⟩
end
section
open Go.ChangeShapes Go.RowKit FL
theorem MIn.refl (lo hi : Nat) (w : World) (hl : lo ≤ w.heap.size) : MIn lo hi w w := (Ext.refl w).mIn hl
theorem MIn.tr {lo hi : Nat} {a b c : World} (x : MIn lo hi a b) (y : MIn lo hi b c) : MIn lo hi a c :=
 ⟨x.bl.trans y.bl, fun k o v hk hc => y.box k o v hk (x.box k o v hk hc), fun p => (y.fz p).trans (x.fz p)⟩
theorem zb24 {lo hi b o : Nat} {w : World} (v : Value) (h1 : lo ≤ b) (h2 : b < hi) (hl : lo ≤ w.heap.size) : MIn lo hi w (w.setCell ⟨b, o, none⟩ v) := ((Mut.refl b w).setCell o v).mIn h1 h2 hl
def WRow (w : World) (lo hi b off : Nat) (ss : List St) : Prop := ∀ j, j < ss.length → (∃ x, w.cell? ⟨b, off + j * 2, none⟩ = some x) ∧ ∃ sa cap, w.cell? ⟨b, off + j * 2 + 1, none⟩ = some (σ sa (ss.getD j s0).2.length cap) ∧ ((ss.getD j s0).2 = [] ∨ ∃ c o, sa = some ⟨c, o, none⟩ ∧ lo ≤ c ∧ c < hi ∧ Ex w c o (ss.getD j s0).2.length)
theorem SRowL.wrow {w : World} {lo b off : Nat} {ss : List St} (h : SRowL w lo b off ss) : WRow w lo w.heap.size b off ss := fun j hj => by
 obtain ⟨h1, u, h2, sa, cap, rfl, h3⟩ := h j hj
 refine ⟨⟨_, h1⟩, sa, cap, h2, ?_⟩
 rcases h3 with h3 | ⟨c, o, h4, h5, h6⟩
 ·exact Or.inl h3
 ·by_cases e : (ss.getD j s0).2 = []
  ·exact Or.inl e
  ·exact Or.inr ⟨c, o, h4, h5, zj (h6 0 (List.length_pos_iff.2 e)).1, h6.ex⟩
theorem WRow.step {w w' : World} {lo hi b off : Nat} {ss : List St} (h : WRow w lo hi b off ss) (x : KE w w') (y : ∀ o v, o % 2 ≠ off % 2 → w.cell? ⟨b, o, none⟩ = some v → w'.cell? ⟨b, o, none⟩ = some v) : WRow w' lo hi b off ss := fun j hj => by
 obtain ⟨⟨u, h1⟩, sa, cap, h2, h3⟩ := h j hj
 refine ⟨x _ _ _ h1, sa, cap, y _ _ (by omega) h2, h3.imp id fun ⟨c, o, h4, h5, h6, h7⟩ => ⟨c, o, h4, h5, h6, h7.ke x⟩⟩
theorem zg19 {w : World} {lo hi b off cap : Nat} {ss : List St} (h : WRow w lo hi b off ss) (hb : b < lo) (hh : hi ≤ w.heap.size) (hbh : b < hi) (hf : ∀ c o, b ≤ c → c < hi → w.frozen? ⟨c, o, none⟩ = false) (hl : SL ss 1048576) (k : Int) (hk : 0 ≤ k ∧ k ≤ 1000) :
  Calls Tryz.prog 49 #[σ (some ⟨b, off, none⟩) ss.length cap, O ι k] w fun e w' => (∃ r : Int, e = .returned (O ι r) ∧ 0 ≤ r ∧ r ≤ 1000 + 4194304 * 1048576) ∧ MIn b hi w w' := by
 have H := hide h
 have HF := hide hf
 have HL := hide hl
 have hl1 := hl.1
 clear h hf hl
 go_enter Tryz.func49, Tryz.ntmps49
 go_wp2
 go_loopw [1, 5] (fun m i wr => ∃ (j : Nat) (z : Int), i = O ι j ∧ m = O ι z ∧ j ≤ ss.length ∧ (0 ≤ z ∧ z ≤ 1000 + 4194304 * (j : Int)) ∧ WRow wr lo hi b off ss ∧ MIn b hi w wr) (fun m i _ => ss.length - (intOf i).toNat)
 case atStart => exact ⟨0, k, rfl, rfl, by omega, ⟨by omega, by omega⟩, H.out, MIn.refl _ _ _ (by omega)⟩
 case round =>
  obtain ⟨j, z, rfl, rfl, hj, hz, hr, hm⟩ := hrel
  have HR := hide hr
  have HM := hide hm
  clear hr hm
  by_cases hlt : j < ss.length
  ·obtain ⟨⟨x0, q0⟩, sc, cc, q1, q2⟩ := HR.out j hlt
   have qf := fun o => (HM.out.fz ⟨b, o, none⟩).trans (HF.out b o (Nat.le_refl _) hbh)
   have hj0 : (0 : Int) ≤ (j : Int) := Int.natCast_nonneg _
   have hj1 : (j : Int) < (ss.length : Int) := by omega
   have hcl := HL.out.at j hlt
   have p1 : (wr.setCell ⟨b, off + j * 2, none⟩ (O ι z)).cell? ⟨b, off + j * 2 + 1, none⟩ = _ := ze1 (by omega) q1
   have hws := Below.size HM.out.bl
   have HW1 : Hid (WRow (wr.setCell ⟨b, off + j * 2, none⟩ (O ι z)) lo hi b off ss) := HR.out.step ((KE.refl wr).set _ _) (fun o v ho hc => ze1 (by omega) hc)
   have HM1 := hide (HM.out.tr (zb24 (w := wr) (o := off + j * 2) (O ι z) (Nat.le_refl b) hbh (by omega)))
   have HF1 : Hid (∀ c o, b ≤ c → c < hi → (wr.setCell ⟨b, off + j * 2, none⟩ (O ι z)).frozen? ⟨c, o, none⟩ = false) := fun c o hc hc2 => (HM1.out.fz _).trans (HF.out c o hc hc2)
   have HE1 : Hid ((ss.getD j s0).2 = [] ∨ ∃ c o, sc = some ⟨c, o, none⟩ ∧ lo ≤ c ∧ c < hi ∧ Ex (wr.setCell ⟨b, off + j * 2, none⟩ (O ι z)) c o (ss.getD j s0).2.length) := q2.imp id fun ⟨c, o, h4, h5, h6, h7⟩ => ⟨c, o, h4, h5, h6, h7.ke ((KE.refl wr).set _ _)⟩
   have hsz1 : b ≤ (wr.setCell ⟨b, off + j * 2, none⟩ (O ι z)).heap.size := by have := zj q0; simp [World.setCell]; omega
   clear q2
   generalize (ss.getD j s0).2 = cs at *
   go_wp2_with fail
   generalize wr.setCell ⟨b, off + j * 2, none⟩ (O ι z) = W1 at *
   rcases HE1.out with h0 | ⟨c, o, rfl, h5, h6, h7⟩
   ·subst h0
    refine (ze11 (z + 1)).mono ?_
    rintro e w2 ⟨rfl, rfl⟩
    go_wp2
    go_roundw
    ·exact ⟨j + 1, z + 1, by go_num, rfl, by omega, ⟨by omega, by push_cast; omega⟩, HW1.out, HM1.out⟩
    ·simp [intOf]; omega
   ·refine (zf11 h7 (fun o => HF1.out c o (by omega) h6) (z + 1) ⟨by omega, by omega⟩ hcl).mono ?_
    rintro e w2 ⟨rfl, _, hmu, hke⟩
    have HW2 := hide (HW1.out.step hke (fun o v _ hc => hmu.box (by omega) hc))
    have HM2 := hide (HM1.out.tr (hmu.mIn (lo := b) (hi := hi) (by omega) h6 hsz1))
    clear hmu hke
    go_wp2
    go_roundw
    ·exact ⟨j + 1, _, by go_num, rfl, by omega, ⟨by omega, by push_cast; omega⟩, HW2.out, HM2.out⟩
    ·simp [intOf]; omega
  ·have hjj : j = ss.length := by omega
   subst hjj
   go_wp2
   go_ret
   exact ⟨⟨z, rfl, hz.1, by omega⟩, HM.out⟩
theorem zb11 {w : World} {b off cap : Nat} {xs : List Int} (h : Row w b off xs) (hf : ∀ o, w.frozen? ⟨b, o, none⟩ = false) (k : Int) (hk : 0 ≤ k ∧ k ≤ 1000000000000000) (hl : xs.length ≤ 1000000000000) :
  Calls Tryz.prog 93 #[σ (some ⟨b, off, none⟩) xs.length cap, O ι k] w fun e w' => e = .returned (O ι (k + xs.length)) ∧ Row w' b off (counted xs.length k) ∧ Mut b w w' := by
 have H := hide h
 clear h
 go_enter Tryz.func93, Tryz.ntmps93
 go_wp2
 go_loopw [1, 5] (fun m i wr => ∃ j : Nat, i = O ι j ∧ m = O ι (k + j) ∧ j ≤ xs.length ∧ Row wr b off (marked xs k j) ∧ Mut b w wr) (fun m i _ => xs.length - (intOf i).toNat)
 case atStart => exact ⟨0, rfl, by simp, by omega, by rw [zm13]; exact H.out, Mut.refl _ _⟩
 case round =>
  obtain ⟨j, rfl, rfl, hj, hr, hm⟩ := hrel
  have HR := hide hr
  have HM := hide hm
  clear hr hm
  by_cases hlt : j < xs.length
  ·have hml : j < (marked xs k j).length := by rw [zx16 xs k j hj]; exact hlt
   have q0 := HR.out j hml
   have qf := (HM.out.fz ⟨b, off + j, none⟩).trans (hf _)
   have hj0 : (0 : Int) ≤ (j : Int) := Int.natCast_nonneg _
   have hj1 : (j : Int) < (xs.length : Int) := by omega
   have St := HR.out.set (k := j) hml (k + j)
   rw [zw16 xs k j hlt] at St
   have HSt := hide St
   clear St
   generalize (marked xs k j).getD j 0 = x at q0
   go_wp2
   go_roundw
   ·exact ⟨j + 1, by go_num, by go_num, by omega, HSt.out, HM.out.setCell _ _⟩
   ·simp [intOf]; omega
  ·have hjj : j = xs.length := by omega
   subst hjj
   go_wp2
   go_ret
   refine ⟨rfl, ?_, HM.out⟩
   have := HR.out
   rw [zn13] at this
   exact this
theorem Ext.ke {w w' : World} (x : Ext w w') : KE w w' := fun b o v h => ⟨v, x.box h⟩
theorem zd11 {w : World} {lo hi b cap : Nat} {ss : List St} (h : WRow w lo hi b 0 ss) (hb : b < lo) (hh : hi ≤ w.heap.size) (hbh : b < hi) (hf : ∀ c o, b ≤ c → c < hi → w.frozen? ⟨c, o, none⟩ = false) (hl : SL ss 1048576) :
  Calls Tryz.prog 15 #[γ #[σ (some ⟨b, 0, none⟩) ss.length cap], O ι 1] w fun e w' => (∃ r : Int, e = .returned (O ι r) ∧ 0 ≤ r ∧ r ≤ 10000000000000) ∧ MIn b hi w w' := by
 have x0 : Ext w (w.alloc (χ #[σ (some ⟨b, 0, none⟩) ss.length cap] 34)) := (Ext.refl w).alloc _ _
 have hm := hide (zg19 (cap := cap) (h.step x0.ke (fun o v _ hc => x0.box hc)) hb (Nat.le_trans hh (Below.size x0.bl)) hbh (fun c o hc hc2 => (x0.fz _).trans (hf c o hc hc2)) hl 1 (by omega))
 have X0 := hide (x0.mIn (lo := b) (hi := hi) (by omega))
 clear x0 h hf hl
 go_enter Tryz.func15, Tryz.ntmps15
 go_wp2_with (go_at_call 49; refine hm.out.mono ?_; rintro e w2 ⟨⟨r, rfl, h0, h1⟩, hx⟩)
 go_ret
 exact ⟨⟨r, rfl, h0, by omega⟩, X0.out.tr hx⟩
theorem Bel.mIn {w w1 w2 : World} {a b : Nat} (x : Bel w w1) (y : MIn a b w1 w2) (h : w.heap.size ≤ a) : Bel w w2 := Below.trans x (Below.mono y.bl h)
theorem MIn.lower {a b hi : Nat} {w w' : World} (x : MIn b hi w w') (h : a ≤ b) : MIn a hi w w' := ⟨Below.mono x.bl h, fun k o v hk hc => x.box k o v (by omega) hc, x.fz⟩
theorem za11 {w : World} {sa : Option Addr} {cap : Nat} (k : Int) :
  Calls Tryz.prog 49 #[σ sa 0 cap, O ι k] w fun e w' => e = .returned (O ι k) ∧ w' = w := by
 go_enter Tryz.func49, Tryz.ntmps49
 go_wp2
 go_loopw [1, 5] (fun m i wr => i = O ι 0 ∧ m = O ι k ∧ wr = w) (fun m i _ => 0)
 case atStart => exact ⟨rfl, rfl, rfl⟩
 case round =>
  obtain ⟨rfl, rfl, rfl⟩ := hrel
  go_wp2
  go_ret
  exact ⟨rfl, rfl⟩
theorem zc11 {w : World} {a hi b cap : Nat} {ss : List St} (h : WRow w (b + 1) hi b 0 ss) (ha : a ≤ b) (haw : a ≤ w.heap.size) (hh : hi ≤ w.heap.size) (hbh : ss = [] ∨ b < hi) (hf : ∀ c o, b ≤ c → c < hi → w.frozen? ⟨c, o, none⟩ = false) (hl : SL ss 1048576) :
  Calls Tryz.prog 15 #[γ #[σ (some ⟨b, 0, none⟩) ss.length cap], O ι 1] w fun e w' => (∃ r : Int, e = .returned (O ι r) ∧ 0 ≤ r ∧ r ≤ 10000000000000) ∧ MIn a hi w w' := by
 rcases hbh with rfl | hbh
 ·have X0 := hide (((Ext.refl w).alloc #[σ (some ⟨b, 0, none⟩) (0 : Nat) cap] 34).mIn (lo := a) (hi := hi) haw)
  clear h hf hl
  show Calls Tryz.prog 15 #[γ #[σ (some ⟨b, 0, none⟩) 0 cap], O ι 1] w _
  go_enter Tryz.func15, Tryz.ntmps15
  go_wp2_with (go_at_call 49; refine (za11 1).mono ?_; rintro e w2 ⟨rfl, rfl⟩)
  go_ret
  exact ⟨⟨1, rfl, by omega, by omega⟩, X0.out⟩
 ·refine (zd11 h (by omega) hh hbh hf hl).mono ?_
  rintro e w' ⟨h1, h2⟩
  exact ⟨h1, h2.lower ha⟩
def kAt (ss : List St) (k : Int) : Nat → Int
 | 0 => k
 | j + 1 => kAt ss k j + 1 + 3 * (ss.getD j s0).2.length
theorem zn11 (ss : List St) (hl : SL ss 1048576) (k : Int) (hk : 0 ≤ k ∧ k ≤ 1000) (j : Nat) (hj : j ≤ ss.length) : 0 ≤ kAt ss k j ∧ kAt ss k j ≤ 1000 + 4194304 * (j : Int) := by
 induction j with
 | zero => exact ⟨hk.1, by show k ≤ _; omega⟩
 | succ j ih =>
  have h1 := ih (by omega)
  have h2 := hl.at j (by omega)
  show 0 ≤ kAt ss k j + 1 + 3 * ((ss.getD j s0).2.length : Int) ∧ kAt ss k j + 1 + 3 * ((ss.getD j s0).2.length : Int) ≤ _
  omega
def mkd (ss : List St) (k : Int) (j : Nat) : St := (kAt ss k j, ccount (ss.getD j s0).2.length (kAt ss k j + 1))
def mkdN (ss : List St) (k : Int) (j : Nat) : List St := (List.range ss.length).map fun i => if i < j then mkd ss k i else ss.getD i s0
theorem za1 (ss : List St) (k : Int) (j : Nat) : (mkdN ss k j).length = ss.length := by simp [mkdN]
theorem zk5 (ss : List St) (k : Int) (j i : Nat) (hi : i < ss.length) : (mkdN ss k j).getD i s0 = if i < j then mkd ss k i else ss.getD i s0 := by
 unfold mkdN
 rw [List.getD_eq_getElem?_getD, List.getElem?_map, List.getElem?_range hi]; rfl
theorem zd19 (ss : List St) (k : Int) : mkdN ss k 0 = ss := by
 refine List.ext_getElem (za1 ss k 0) fun i h1 h2 => ?_
 have h := zk5 ss k 0 i h2
 rw [if_neg (by omega)] at h
 rw [List.getD_eq_getElem?_getD, List.getElem?_eq_getElem h1, List.getD_eq_getElem?_getD, List.getElem?_eq_getElem h2] at h
 exact h
theorem zw1 (ss : List St) (k : Int) (j i : Nat) (hi : i < ss.length) : ((mkdN ss k j).getD i s0).2.length = (ss.getD i s0).2.length := by
 rw [zk5 ss k j i hi]
 split
 ·exact zr1 ..
 ·rfl
theorem HOwn.mark {W W2 : World} {lo g : Nat} {cb : Nat → Nat} {ss : List St} {k : Int} {j : Nat} (h : HOwn W lo g cb (mkdN ss k j)) (hj : j < ss.length) (hw : ∀ c, c < W.heap.size → c ≠ g → ((ss.getD j s0).2 ≠ [] → c ≠ cb j) → W2.heap[c]? = W.heap[c]?) (hg : ∀ o x, o ≠ j * 2 → W.cell? ⟨g, o, none⟩ = some x → W2.cell? ⟨g, o, none⟩ = some x) (hgj : W2.cell? ⟨g, j * 2, none⟩ = some (O ι (kAt ss k j)))
  (hr : (ss.getD j s0).2 ≠ [] → CRow W2 (cb j) 0 (ccount (ss.getD j s0).2.length (kAt ss k j + 1))) (hf : ∀ a, W2.frozen? a = W.frozen? a) (hs : W.heap.size ≤ W2.heap.size) : HOwn W2 lo g cb (mkdN ss k (j + 1)) := by
 have hnil : ∀ i, i < ss.length → (((mkdN ss k (j + 1)).getD i s0).2 ≠ [] ↔ (ss.getD i s0).2 ≠ []) := fun i hi => by rw [ne_eq, ne_eq, zh1, zh1, zw1 _ _ _ _ hi]
 have hnil' : ∀ i, i < ss.length → (((mkdN ss k j).getD i s0).2 ≠ [] ↔ (ss.getD i s0).2 ≠ []) := fun i hi => by rw [ne_eq, ne_eq, zh1, zh1, zw1 _ _ _ _ hi]
 have hsame : ∀ i, i < ss.length → i ≠ j → (mkdN ss k (j + 1)).getD i s0 = (mkdN ss k j).getD i s0 := fun i hi hij => by
  rw [zk5 _ _ _ _ hi, zk5 _ _ _ _ hi]
  by_cases q : i < j
  ·rw [if_pos q, if_pos (by omega)]
  ·rw [if_neg q, if_neg (by omega)]
 have hnew : (mkdN ss k (j + 1)).getD j s0 = mkd ss k j := by rw [zk5 _ _ _ _ hj, if_pos (by omega)]
 have hm := za1 ss k j
 refine ⟨fun i hi => ?_, fun i hi => ?_, fun i hi hne => ?_, fun o => (hf _).trans (h.fz o), fun i hi hne o => (hf _).trans (h.fzr i (by rw [za1] at hi ⊢; exact hi) ?_ o), h.lo_g, Nat.lt_of_lt_of_le h.g_lt hs, fun i hi hne => ?_, fun i i' hii hi' hn1 hn2 => ?_⟩
 ·rw [za1] at hi
  by_cases e : i = j
  ·subst e; rw [hnew]; exact hgj
  ·rw [hsame i hi e]; exact hg _ _ (by omega) (h.dt i (by rw [za1]; exact hi))
 ·rw [za1] at hi
  obtain ⟨sa, cap, q1, q2⟩ := h.sl i (by rw [za1]; exact hi)
  refine ⟨sa, cap, ?_, ?_⟩
  ·rw [zw1 _ _ _ _ hi]
   rw [zw1 _ _ _ _ hi] at q1
   exact hg _ _ (by omega) q1
  ·rcases q2 with q2 | q2
   ·exact Or.inl (by rw [zh1, zw1 _ _ _ _ hi]; rw [zh1, zw1 _ _ _ _ hi] at q2; exact q2)
   ·exact Or.inr q2
 ·rw [za1] at hi
  by_cases e : i = j
  ·subst e
   rw [hnew]
   exact hr ((hnil i hi).1 hne)
  ·rw [hsame i hi e]
   have hne' : ((mkdN ss k j).getD i s0).2 ≠ [] := (hnil' i hi).2 ((hnil i hi).1 hne)
   have hgc := h.g_cb i (by rw [za1]; exact hi) hne'
   have hrr := h.row i (by rw [za1]; exact hi) hne'
   have hb : W2.heap[cb i]? = W.heap[cb i]? := hw (cb i) (zj (hrr 0 (List.length_pos_iff.2 hne')).1) (by omega) (fun hnj q => by
    have hnj' := (hnil' j hj).2 hnj
    rcases Nat.lt_or_gt_of_ne e with z | z
    ·have := h.inc i j z (by rw [za1]; exact hj) hne' hnj'; omega
    ·have := h.inc j i z (by rw [za1]; exact hi) hnj' hne'; omega)
   exact fun y hy => ⟨(World.cell?_of_block (w := W) (a := ⟨cb i, _, none⟩) hb).trans (hrr y hy).1, (World.cell?_of_block (w := W) (a := ⟨cb i, _, none⟩) hb).trans (hrr y hy).2.1, (World.cell?_of_block (w := W) (a := ⟨cb i, _, none⟩) hb).trans (hrr y hy).2.2⟩
 ·rw [za1] at hi
  exact (hnil' i hi).2 ((hnil i hi).1 hne)
 ·rw [za1] at hi
  exact h.g_cb i (by rw [za1]; exact hi) ((hnil' i hi).2 ((hnil i hi).1 hne))
 ·rw [za1] at hi'
  exact h.inc i i' hii (by rw [za1]; exact hi') ((hnil' i (by omega)).2 ((hnil i (by omega)).1 hn1)) ((hnil' i' hi').2 ((hnil i' hi').1 hn2))
theorem zu19 {w : World} {v : Value} {ss : List St} (k : Int) (h : SV w v (mkdN ss k ss.length)) (hl : SL ss 1048576) (hk : 0 ≤ k ∧ k ≤ 1000) :
  Calls Tryz.prog 94 #[v, O ι k] w fun e w' => e = .returned (O ι (kAt ss k ss.length)) ∧ Ext w w' := by
 obtain ⟨sa, cap, rfl, hx⟩ := h
 rw [za1]
 have HX := hide hx
 have hl1 := hl.1
 have HL := hide hl
 clear hx hl
 go_enter Tryz.func94, Tryz.ntmps94
 go_wp2
 go_loopw [1, 5] (fun m i wr => ∃ j : Nat, i = O ι j ∧ m = O ι (kAt ss k j) ∧ j ≤ ss.length ∧ Ext w wr) (fun m i _ => ss.length - (intOf i).toNat)
 case atStart => exact ⟨0, rfl, rfl, by omega, Ext.refl w⟩
 case round =>
  obtain ⟨j, rfl, rfl, hj, hw⟩ := hrel
  have HW := hide hw
  by_cases hlt : j < ss.length
  ·obtain ⟨b, off, rfl, hrow⟩ := HX.out.resolve_left (fun e => by have e2 : (mkdN ss k ss.length).length = 0 := (by rw [e]; rfl); rw [za1] at e2; omega)
   obtain ⟨q0, u, q1, q2⟩ := (hrow.keep hw.bl) j (by rw [za1]; exact hlt)
   rw [zk5 _ _ _ _ hlt, if_pos hlt] at q0 q2
   have hkb := zn11 ss HL.out k hk j hj
   have hcl := HL.out.at j hlt
   have hkn : Hid (kAt ss k (j + 1) = kAt ss k j + 1 + 3 * (ss.getD j s0).2.length) := rfl
   have HC := hide (zv19 (kAt ss k j + 1) (n := (ss.getD j s0).2.length) q2 ⟨by omega, by omega⟩ hcl)
   obtain ⟨su, cu, rfl, _⟩ := q2
   change wr.cell? ⟨b, off + j * 2, none⟩ = some (O ι (kAt ss k j)) at q0
   change wr.cell? ⟨b, off + j * 2 + 1, none⟩ = some (σ su (ccount (ss.getD j s0).2.length (kAt ss k j + 1)).length cu) at q1
   have hcc : (mkd ss k j).2.length = (ss.getD j s0).2.length := zr1 ..
   rw [zr1] at q1
   change Hid (Calls Tryz.prog 127 #[σ su (ccount (ss.getD j s0).2.length (kAt ss k j + 1)).length cu, O ι (kAt ss k j + 1)] wr _) at HC
   rw [zr1] at HC
   generalize (ss.getD j s0).2.length = nl at q1 HC hkn hcl hcc
   generalize hkj : kAt ss k j = kj at q0 HC hkn hkb ⊢
   have hj0 : (0 : Int) ≤ (j : Int) := Int.natCast_nonneg _
   have hj1 : (j : Int) < (ss.length : Int) := by omega
   clear hrow hw hcc
   go_wp2_with (go_at_call 127; refine HC.out.mono ?_; rintro e w2 ⟨rfl, x2⟩; have X2 := hide (HW.out.trans x2); have hpos : decide (kj + 1 + 3 * (nl : Int) < 0) = false := decide_eq_false (by omega); clear x2)
   refine ⟨⟨j + 1, by go_num, by rw [hkn.out], by omega, X2.out⟩, ?_⟩
   simp [intOf]; omega
  ·have hjj : j = ss.length := by omega
   subst hjj
   go_wp2
   go_ret
   exact ⟨rfl, HW.out⟩
def MOwn (w : World) (lo : Nat) (v : Value) (ss : List St) : Prop := (ss = [] ∧ v = σ none 0 0) ∨ ∃ g cap cb, v = σ (some ⟨g, 0, none⟩) ss.length cap ∧ HOwn w lo g cb ss
theorem MOwn.sv {w : World} {lo : Nat} {v : Value} {ss : List St} (h : MOwn w lo v ss) : SV w v ss := by
 rcases h with ⟨rfl, rfl⟩ | ⟨g, cap, cb, rfl, h⟩
 ·exact ⟨none, 0, rfl, Or.inl rfl⟩
 ·exact h.sv
theorem MOwn.keep {w w' : World} {lo : Nat} {v : Value} {ss : List St} (h : MOwn w lo v ss) (hb : ∀ b, lo ≤ b → b < w.heap.size → w'.heap[b]? = w.heap[b]?) (hs : w.heap.size ≤ w'.heap.size) : MOwn w' lo v ss :=
 h.imp id fun ⟨g, cap, cb, e, q⟩ => ⟨g, cap, cb, e, q.keep hb hs⟩
theorem zv9 (w : World) (k : Int) :
  Calls Tryz.prog 15 #[γ #[σ none 0 0], O ι k] w fun e w' => e = .returned (O ι k) ∧ Ext w w' := by
 have X1 : Hid (Ext w (w.alloc (χ #[σ none 0 0] 34))) := (Ext.refl w).alloc _ _
 go_enter Tryz.func15, Tryz.ntmps15
 go_wp2_with (go_at_call 49; refine (za11 k).mono ?_; rintro e w2 ⟨rfl, rfl⟩)
 go_ret
 exact ⟨rfl, X1.out⟩
theorem zr11 {w : World} {v : Value} {ss : List St} (h : SV w v (mkdN ss 1 ss.length)) (hl : SL ss 1048576) :
  Calls Tryz.prog 51 #[γ #[v], O ι 1] w fun e w' => e = .returned (O ι (kAt ss 1 ss.length)) ∧ Ext w w' := by
 obtain ⟨sa, cap, rfl, hx⟩ := h
 have h : SV w (σ sa (mkdN ss 1 ss.length).length cap) (mkdN ss 1 ss.length) := ⟨sa, cap, rfl, hx⟩
 have x1 : Ext w (w.alloc (χ #[σ sa (mkdN ss 1 ss.length).length cap] 34)) := (Ext.refl w).alloc _ _
 have HM := hide (zu19 1 (h.keep x1.bl) hl (by omega))
 have X1 := hide x1
 have hkb := zn11 ss hl 1 (by omega) ss.length (Nat.le_refl _)
 have hl1 := hl.1
 have hd : decide (kAt ss 1 ss.length < 0) = false := decide_eq_false (by omega)
 generalize (mkdN ss 1 ss.length).length = ln at *
 generalize kAt ss 1 ss.length = kk at *
 clear h x1 hx
 go_enter Tryz.func51, Tryz.ntmps51
 go_wp2_with (go_at_call 94; refine HM.out.mono ?_; rintro e w2 ⟨rfl, x2⟩; have X2 := hide (X1.out.trans x2); clear x2)
 go_ret
 exact ⟨rfl, X2.out⟩
theorem zl17 {w : World} {v : Value} {ss : List St} (c : Int) (h : SV w v (mkdN ss 1 ss.length)) (hl : SL ss 1048576) :
  Calls Tryz.prog 18 #[γ #[O ι c, v], O ι 1] w fun e w' => e = .returned (O ι (kAt ss 1 ss.length)) ∧ Ext w w' := by
 obtain ⟨sa, cap, rfl, hx⟩ := h
 have h : SV w (σ sa (mkdN ss 1 ss.length).length cap) (mkdN ss 1 ss.length) := ⟨sa, cap, rfl, hx⟩
 have x1 : Ext w (w.alloc (χ #[O ι c, σ sa (mkdN ss 1 ss.length).length cap] 36)) := (Ext.refl w).alloc _ _
 have HM := hide (zr11 (h.keep x1.bl) hl)
 have X1 := hide x1
 have hkb := zn11 ss hl 1 (by omega) ss.length (Nat.le_refl _)
 have hl1 := hl.1
 have hd : decide (kAt ss 1 ss.length < 0) = false := decide_eq_false (by omega)
 generalize (mkdN ss 1 ss.length).length = ln at *
 generalize kAt ss 1 ss.length = kk at *
 clear h x1 hx
 go_enter Tryz.func18, Tryz.ntmps18
 go_wp2_with (go_at_call 51; refine HM.out.mono ?_; rintro e w2 ⟨rfl, x2⟩; have X2 := hide (X1.out.trans x2); clear x2)
 go_ret
 exact ⟨rfl, X2.out⟩
theorem zc10 {w : World} {v u : Value} {ss ts : List St} (c : Int) (h : SV w v ss) (g : SV w u ts) (hsm : SSm ss ts) (hg : SG ss) (hg2 : SG ts) (hl : SL ss 1048576) :
  Calls Tryz.prog 12 #[γ #[O ι c, v], γ #[O ι c, u]] w fun e w' => e = .returned (.bool true) ∧ Ext w w' := by
 obtain ⟨sa, cap, rfl, hx⟩ := h
 obtain ⟨ta, dap, rfl, hy⟩ := g
 have h : SV w (σ sa ss.length cap) ss := ⟨sa, cap, rfl, hx⟩
 have g : SV w (σ ta ts.length dap) ts := ⟨ta, dap, rfl, hy⟩
 have x1 : Ext w ((w.alloc (χ #[O ι c, σ sa ss.length cap] 36)).alloc (χ #[O ι c, σ ta ts.length dap] 36)) := ((Ext.refl w).alloc _ _).alloc _ _
 have HM := hide (zb20 (h.keep x1.bl) (g.keep x1.bl) hsm hg hg2 hl)
 have X1 := hide x1
 clear h g x1 hx hy hsm
 go_enter Tryz.func12, Tryz.ntmps12
 go_wp2_with (go_at_call 13; refine HM.out.mono ?_; rintro e w2 ⟨rfl, x2⟩; have X2 := hide (X1.out.trans x2); clear x2)
 go_ret
 exact ⟨rfl, X2.out⟩
def TS (P : Nat → Prop) (w : World) (n : Nat) (vA vB : Value) (s : Sys) : Prop :=
 (n = 0 ∧ vA = σ none 0 0 ∧ ∃ v c, vB = σ v 0 c) ∨
 (0 < n ∧ ∃ g cg h bs, vA = σ (some ⟨g, 0, none⟩) n cg ∧ vB = σ (some ⟨h, 0, none⟩) n n ∧ SysIn w g h n bs s ∧ P g ∧ P h ∧ ∀ i, i < n → P (bs.getD i 0))
end
section
open Go.RowKit
section
variable {P : Program} {ops : Array Oper} {Q : Exit → Act → World → Prop} {md : Region.Mode} {S : World → Prop} {late : List Nat}
theorem zk1 {rs : List Nat} {f : Nat} {l : Array Bool} {a : Act} {w : World} (hr : Region.ready md ops l = rs) (hne : rs ≠ [])
  (h : ∀ i ∈ rs, ∃ o, ops[i]? = some o ∧ ∀ K' : Act → World → Prop, Shut (∀ a w, (late.contains i = false → S w) → wpAnyU P md ops Q S late f (l.setIfInBounds i true) a w → K' a w) → if Region.wanted o (yielded ops a.tmps) = true then Oper.wp P o a w K' Q else K' (a.put o.dst undef) w) :
  wpAnyU P md ops Q S late (f + 1) l a w := by
 refine ⟨fun h0 => absurd (hr ▸ h0) hne, fun j hj => ?_⟩
 rw [hr] at hj
 obtain ⟨o, ho, hK⟩ := h j hj
 exact wpOp_step ho (fun K' hK' => hK K' (fun a w h1 h2 => hK' a w ⟨h1, h2⟩))
theorem zh {i d : Nat} {oi : Oper} {v : Value} (hi : ops[i]? = some oi) (hd : oi.dst = some d) (hs : Region.noSelect ops = true) (hl : (late.all (waitsFor md ops i)) = true)
  (hQ : ∀ c a w, Q (.panic c) (a.put oi.dst v) w → Q (.panic c) a w) (f : Nat) {l : Array Bool} {a : Act} {w : World}
  (h1 : Region.free md ops l i = true) (h2 : (Region.ready md ops l).contains i = true) (h3 : YieldsIf P ops S oi v a) (h4 : S w)
  (h : wpAnyU P md ops Q S late f (l.setIfInBounds i true) (a.put (some d) v) w) : wpAnyU P md ops Q S late (f + 1) l a w :=
 zi hi hs hl hQ f h1 h2 h3 h4 (by rw [hd]; exact h)
theorem zl27 (i d : Nat) (v : Value) {oi : Oper} {f : Nat} {l : Array Bool} {a : Act} {w : World} (hi : ops[i]? = some oi) (h3 : YieldsIf P ops S oi v a) (h4 : S w)
  (h : wpAnyU P md ops Q S late f (l.setIfInBounds i true) (a.put (some d) v) w) (hd : oi.dst = some d := by rfl) (hs : Region.noSelect ops = true := by kernel_rfl) (hl : (late.all (waitsFor md ops i)) = true := by kernel_rfl)
  (hQ : ∀ c a w, Q (.panic c) (a.put oi.dst v) w → Q (.panic c) a w := by exact fun _ _ _ h => by cases h.1) (h1 : Region.free md ops l i = true := by kernel_rfl) (h2 : (Region.ready md ops l).contains i = true := by kernel_rfl) : wpAnyU P md ops Q S late (f + 1) l a w :=
 zh hi hd hs hl hQ f h1 h2 h3 h4 h
theorem zq {id : Nat} {a : Act} {w : World} (R : Act → Act → World → Prop) (hm : P.follows .mixedOrders = true) (h2 : ∀ a' w', R a a' w' → Q .normal a' w')
  (h : wpAnyU P .any ops (fun e a' w' => e = .normal ∧ R a a' w') S late ops.size (Array.replicate ops.size false) a w.drew) : (Code.region id ops true).wp P Q a w :=
 Code.wp_mono (fun e a' w' h => by obtain ⟨rfl, h⟩ := h; exact h2 _ _ h) (wp_region_any hm (ze5 _ _ _ _ h))
end
def stL (w : World) (b : Nat) : Nat → List Value → World
 | _, [] => w
 | o, v :: vs => stL (w.setCell ⟨b, o, none⟩ v) b (o + 1) vs
theorem zf23 (w : World) (b o : Nat) (vs : List Value) (q : Nat) (hq : q < o) : (stL w b o vs).cell? ⟨b, q, none⟩ = w.cell? ⟨b, q, none⟩ := by
 induction vs generalizing w o with
 | nil => rfl
 | cons v vs ih =>
  refine (ih _ (o + 1) (by omega)).trans ?_
  exact World.cell?_setCell_other _ _ _ _ (by intro e; simp only [Addr.mk.injEq] at e; omega)
theorem zc15 (w : World) (b o : Nat) (vs : List Value) (hx : ∀ q, o ≤ q → q < o + vs.length → ∃ x, w.cell? ⟨b, q, none⟩ = some x) : ∀ q v, vs[q]? = some v → (stL w b o vs).cell? ⟨b, o + q, none⟩ = some v := by
 induction vs generalizing w o with
 | nil => intro q v h; simp at h
 | cons u vs ih =>
  intro q v h
  have hx' : ∀ q, o + 1 ≤ q → q < o + 1 + vs.length → ∃ x, (w.setCell ⟨b, o, none⟩ u).cell? ⟨b, q, none⟩ = some x := fun q h1 h2 => by
   obtain ⟨x, e⟩ := hx q (by omega) (by simp; omega)
   exact ⟨x, (World.cell?_setCell_other _ _ _ _ (by intro z; simp only [Addr.mk.injEq] at z; omega)).trans e⟩
  match q, h with
  | 0, h =>
   simp at h
   subst h
   obtain ⟨x, e⟩ := hx o (Nat.le_refl _) (by simp)
   refine (zf23 _ b (o + 1) vs o (by omega)).trans ?_
   exact World.cell?_setCell_same _ _ _ e
  | q + 1, h =>
   have := ih (w.setCell ⟨b, o, none⟩ u) (o + 1) hx' q v (by simpa using h)
   rw [show o + (q + 1) = o + 1 + q by omega]
   exact this
end
section
open Go.RowKit Go.ChangeShapes
theorem zv1 (b : Bool) (c : Int) (w : World) :
  Calls Tryz.prog 37 #[.bool b, O ι c] w fun e w' => e = .returned (O ι (if b then c else 0)) ∧ w' = w := by
 cases b
 ·go_enter Tryz.func37, Tryz.ntmps37
  go_wp2
  go_ret
  exact ⟨rfl, rfl⟩
 ·go_enter Tryz.func37, Tryz.ntmps37
  go_wp2
  go_ret
  exact ⟨rfl, rfl⟩
def smN (xs : List Int) : Nat → Int
 | 0 => 0
 | k + 1 => if xs.getD k 0 ≠ 0 ∧ (smN xs k = 0 ∨ xs.getD k 0 < smN xs k) then xs.getD k 0 else smN xs k
def smallL (xs : List Int) : Int := smN xs xs.length
theorem zf2 {w : World} {b off cap : Nat} {xs : List Int} (h : Row w b off xs) (hl : xs.length ≤ 1000) :
  Calls Tryz.prog 36 #[σ (some ⟨b, off, none⟩) xs.length cap] w fun e w' => e = .returned (O ι (smallL xs)) ∧ w' = w := by
 have HR := hide h
 clear h
 have n0 : (0 : Int) ≤ (xs.length : Int) := Int.natCast_nonneg _
 go_enter Tryz.func36, Tryz.ntmps36
 go_wp2_with fail
 go_loopw [3, 8] (fun s i wr => ∃ k : Nat, i = O ι k ∧ k ≤ xs.length ∧ s = O ι (smN xs k) ∧ wr = w) (fun s i _ => xs.length - (intOf i).toNat)
 case atStart => exact ⟨0, rfl, by omega, rfl, rfl⟩
 case round =>
  obtain ⟨k, rfl, hk, rfl, rfl⟩ := hrel
  by_cases hkn : k < xs.length
  ·have q0 := HR.out k hkn
   have k0' : (0 : Int) ≤ (k : Int) := Int.natCast_nonneg _
   have k1 : (k : Int) < (xs.length : Int) := by omega
   have hnx : Hid (smN xs (k + 1) = if xs.getD k 0 ≠ 0 ∧ (smN xs k = 0 ∨ xs.getD k 0 < smN xs k) then xs.getD k 0 else smN xs k) := rfl
   generalize xs.getD k 0 = c at q0 hnx
   generalize smN xs k = s at hnx ⊢
   by_cases hc : c = 0
   ·have hn : Hid (smN xs (k + 1) = s) := by show _ = _; rw [hnx.out, if_neg (fun q => q.1 hc)]
    subst hc
    go_wp2_with fail
    go_roundw
    ·exact ⟨k + 1, by go_num, by omega, by rw [hn.out], by trivial⟩
    ·simp [intOf]; omega
   ·by_cases hs : s = 0
    ·have hn : Hid (smN xs (k + 1) = c) := by show _ = _; rw [hnx.out, if_pos ⟨hc, .inl hs⟩]
     subst hs
     go_wp2_with fail
     go_roundw
     ·exact ⟨k + 1, by go_num, by omega, by rw [hn.out], by trivial⟩
     ·simp [intOf]; omega
    ·by_cases hlt : c < s
     ·have hn : Hid (smN xs (k + 1) = c) := by show _ = _; rw [hnx.out, if_pos ⟨hc, .inr hlt⟩]
      go_wp2_with fail
      go_roundw
      ·exact ⟨k + 1, by go_num, by omega, by rw [hn.out], by trivial⟩
      ·simp [intOf]; omega
     ·have hd : decide (c < s) = false := decide_eq_false hlt
      have hle : s ≤ c := by omega
      have hn : Hid (smN xs (k + 1) = s) := by show _ = _; rw [hnx.out, if_neg (fun q => by rcases q.2 with e | e; exact hs e; exact hlt e)]
      go_wp2_with fail
      ·rename_i hx; exact absurd (by simpa using hx.2) hs
      go_roundw
      ·exact ⟨k + 1, by go_num, by omega, by rw [hn.out], by trivial⟩
      ·simp [intOf]; omega
  ·have hkk : k = xs.length := by omega
   subst hkk
   go_wp2
   go_ret
   exact ⟨rfl, rfl⟩
end
section
open Go.ChangeShapes Go.RowKit
theorem zz5 (W : World) (a b : Int) (t : TypeId) : Row (W.alloc (χ #[O ι a, O ι b] t)) W.heap.size 0 [a, b] := fun j hj => by
 rw [Nat.zero_add, zd W _ t _ rfl j]
 match j with
 | 0 => rfl
 | 1 => rfl
 | j + 2 => simp at hj; omega
def wrC (nd cast : Bool) : Int := smallL [if !nd then 9 else 0, if !cast then 10 else 0]
end
section
open Go.ChangeShapes Go.RowKit FL
def IsOk (w : World) (ss : List St) (a b o : Ar) (e : Ending) (w' : World) : Prop := ∃ c u ts, e = .returned (γ #[O ι c, u]) ∧ SolveOk ss a b o c ts ∧ MOwn w' w.heap.size u ts ∧ Bel w w'
def AtB (W : World) (B : Nat) (C : List Value) : Prop := ∀ j x, C[j]? = some x → W.cell? ⟨B, j, none⟩ = some x
theorem AtB.keep {W W' : World} {B : Nat} {C : List Value} (h : AtB W B C) (x : Bel W W') : AtB W' B C := fun j y hy => Bel.box x (h j y hy)
structure IBx (w W1 : World) (hv : Value) (B1 B2 B3 : Nat) (C1 C2 C3 : List Value) (W : World) : Prop where
 h : W.cell? ⟨w.heap.size, 0, none⟩ = some hv
 r0 : W.cell? ⟨w.heap.size + 4, 0, none⟩ = some (O ι 0)
 r1 : W.cell? ⟨w.heap.size + 4, 1, none⟩ = some (σ none 0 0)
 fz : ∀ j, W.frozen? ⟨w.heap.size + 4, j, none⟩ = false
 c1 : AtB W B1 C1
 c2 : AtB W B2 C2
 c3 : AtB W B3 C3
 bl : Bel w W
 sz : w.heap.size + 5 ≤ W.heap.size
 b1 : Bel W1 W
theorem zk27 (a b c d e f g h : Int) (w : World) : (Op.equalIn 9999 79 (γ #[O ι a, O ι b, O ι c, O ι d]) (γ #[O ι e, O ι f, O ι g, O ι h])).run Tryz.prog w = .ok (decide (a = e ∧ b = f ∧ c = g ∧ d = h)) w := by
 rw [show (9999 : Nat) = 9998 + 1 from rfl, Op.equalIn]
 simp only [Sem.run_bind, run_underlying Tryz.underlying79, Result.andThen_ok]
 simp only [Std.Legacy.Range.forIn_eq_forIn_range', Std.Legacy.Range.size, Nat.sub_zero, Nat.add_sub_cancel, Nat.div_one, List.range'_succ, List.range'_zero, List.forIn_cons, List.forIn_nil]
 go_simp
 by_cases h1 : a = e <;> by_cases h2 : b = f <;> by_cases h3 : c = g <;> by_cases h4 : d = h <;> simp [h1, h2, h3, h4]
theorem zb21 (W : World) (a b c : Int) (t : TypeId) : Row (W.alloc (χ #[O ι a, O ι b, O ι c] t)) W.heap.size 0 [a, b, c] := fun j hj => by
 rw [Nat.zero_add, zd W _ t _ rfl j]
 match j with
 | 0 => rfl
 | 1 => rfl
 | 2 => rfl
end
section
open Go.ChangeShapes Go.RowKit
theorem zy2 (sa : Option Addr) (n cap : Nat) (left : Int) (hn : n ≤ 9223372036854775807) (hl : 0 ≤ left ∧ left ≤ 1048576) (w : World) :
  Calls Tryz.prog 64 #[σ sa n cap, O ι left] w fun e w' => e = .returned (O ι (if left - n < 0 then -1 else left - n)) ∧ w' = w := by
 by_cases h : left - (n : Int) < 0
 ·rw [if_pos h]
  go_enter Tryz.func64, Tryz.ntmps64
  go_wp2
  go_ret
  exact ⟨rfl, rfl⟩
 ·rw [if_neg h]
  go_enter Tryz.func64, Tryz.ntmps64
  go_wp2
  go_ret
  exact ⟨rfl, rfl⟩
theorem zf14 {w : World} {v u v' u' : Value} {xs ss : List Int} (off : Int) (h : Ints w v xs) (g : Ints w u ss) (h' : Ints w v' xs) (g' : Ints w u' ss) (lx : xs.length ≤ 1048576) (ls : ss.length ≤ 1048576) :
  Calls Tryz.prog 48 #[γ #[v, u, O ι off], γ #[v', u', O ι off]] w fun e w' => e = .returned (.bool true) ∧ Ext w w' := by
 have x0 : Ext w ((w.alloc (χ #[v, u, O ι off] 39)).alloc (χ #[v', u', O ι off] 39)) := ((Ext.refl w).alloc _ _).alloc _ _
 have y0 : Ext (w.alloc (χ #[v, u, O ι off] 39)) ((w.alloc (χ #[v, u, O ι off] 39)).alloc (χ #[v', u', O ι off] 39)) := (Ext.refl _).alloc _ _
 have n1 := fun j => zd w #[v, u, O ι off] 39 w.heap.size rfl j
 have n2 := fun j => zd (w.alloc (χ #[v, u, O ι off] 39)) #[v', u', O ι off] 39 (w.heap.size + 1) (by simp) j
 have a1 := y0.box (n1 1)
 have a2 := y0.box (n1 2)
 have b1 := n2 1
 have b2 := n2 2
 have H := hide (h.ext x0)
 have G := hide (g.ext x0)
 have H' := hide (h'.ext x0)
 have G' := hide (g'.ext x0)
 have X0 := hide x0
 clear n1 n2 x0 y0
 obtain ⟨sa, ca, rfl, _⟩ := h
 obtain ⟨sb, cb, rfl, _⟩ := g
 obtain ⟨sc, cc, rfl, _⟩ := h'
 obtain ⟨sd, cd, rfl, _⟩ := g'
 go_enter Tryz.func48, Tryz.ntmps48
 go_wp2_with fail
 refine (za9 H.out H'.out (by omega)).mono ?_
 rintro e w1 ⟨rfl, x1⟩
 rw [show decide (xs = xs) = true from by simp]
 have a1' := x1.box a1
 have a2' := x1.box a2
 have b1' := x1.box b1
 have b2' := x1.box b2
 have G1 := hide (G.out.ext x1)
 have G1' := hide (G'.out.ext x1)
 have X1 := hide (X0.out.trans x1)
 clear a1 a2 b1 b2 x1 H H' G G' X0
 go_wp2_with fail
 refine (za9 G1.out G1'.out (by omega)).mono ?_
 rintro e w2 ⟨rfl, x2⟩
 rw [show decide (ss = ss) = true from by simp]
 have a2'' := x2.box a2'
 have b2'' := x2.box b2'
 have X2 := hide (X1.out.trans x2)
 clear x2 a1' a2' b1' b2'
 go_wp2
 go_ret
 exact ⟨rfl, X2.out⟩
def szL (n m : Nat) : Int := if (1048576 : Int) - n < 0 then -1 else if (1048576 : Int) - n - m < 0 then -1 else (1048576 : Int) - n - m
end
end Go.Proofs.YtfhcpicddegblaaGreat
