import Derived.Test.YtjbbodfdpbcnhaaGreatM4
import Derived.Deep.AppendLies
import Derived.Deep.RegionHeld3
import Derived.Test.YtjbbodfdpbcnhaaGreatM5
import Derived.Test.YtjbbodfdpbcnhaaGreatM6
import Derived.Laws.IdiomCopy
import Derived.Deep.QuietTactic
import Derived.Laws.AppendOwn
import Derived.Deep.RegionWith
import Derived.Maps.AppendAt
import Derived.OneCell
import Derived.Below
import Derived.Deep.RegionLaw
set_option linter.unusedSimpArgs false
set_option linter.unusedVariables false
set_option maxRecDepth 100000
set_option maxHeartbeats 8000000
namespace Go.Proofs.YtjbbodfdpbcnhaaGreat
open List renaming setIfInBounds_toArray → sT, set_cons_zero → sZ, set_cons_succ → sS
open Go.Value renaming int → O, slice → σ, pointer → π, agg → γ
open Go.IntKind renaming i64 → ι
open Go.Obj renaming cells → χ
open Go.Act renaming put → aP
section
open Go.ChangeShapes Go.RowKit FL
def RdRel (w2 : World) (g0 : Nat) (f : Int → C3) (L : List Int) (o i : Value) (wr : World) : Prop := ∃ m : Nat, i = O ι m ∧ m ≤ L.length ∧ wr.ownsRow g0 47 3 o m (flat ((L.take m).map f)) ∧ (o.ownBlock = some g0 ∨ ∃ k, o.ownBlock = some k ∧ w2.heap.size ≤ k) ∧ w2.grownBy wr (some g0)
theorem zo15 (f : Int → C3) (L : List Int) (m : Nat) (hm : m < L.length) : (L.take (m + 1)).map f = (L.take m).map f ++ [f (L.getD m 0)] := by
 rw [List.take_add_one, List.map_append, List.getD_eq_getElem?_getD, List.getElem?_eq_getElem hm]
 rfl
theorem zr8 {w : World} {v vS vT : Value} {ss : List St} {xs sv : List Int} (h : SV w v ss) (hl : SL ss 1048576) (st : Int) (hS : Ints w vS xs) (hT : Ints w vT sv) (off : Int) (hG : GoodA ss st xs sv off) :
  Calls Tryz.prog 35 #[γ #[v], O ι st, γ #[vS, vT, O ι off]] w fun e w' => CellsOk w (readL ss st xs sv off) e w' := by
 obtain ⟨i59, hi59, hy0, hy1, hy2⟩ := info_parts zk4
 obtain ⟨sa, cap, rfl, hx⟩ := h
 have h : SV w (σ sa ss.length cap) ss := ⟨sa, cap, rfl, hx⟩
 have n1 := fun j => zg w #[σ sa ss.length cap] 25 w.heap.size rfl j
 generalize hW1 : (w.alloc (χ #[σ sa ss.length cap] 25)).alloc (χ #[vS, vT, O ι off] 28) = W1
 have x1 : Ext w W1 := by rw [← hW1]; exact ((Ext.refl w).alloc _ _).alloc _ _
 have hs1 : W1.heap.size = w.heap.size + 1 + 1 := by rw [← hW1]; simp
 have c1 : W1.cell? ⟨w.heap.size, 0, none⟩ = some (σ sa ss.length cap) := by rw [← hW1]; exact ((Ext.refl _).alloc _ _).box (n1 0)
 have y0 : Ext W1 (W1.alloc (χ #[] 47)) := (Ext.refl _).alloc _ _
 have x0 : Ext w (W1.alloc (χ #[] 47)) := x1.trans y0
 have C0 : Hid ((W1.alloc (χ #[] 47)).cell? ⟨w.heap.size, 0, none⟩ = some (σ sa ss.length cap)) := y0.box c1
 have O0 : Hid ((W1.alloc (χ #[] 47)).ownsRow (w.heap.size + 1 + 1) 47 3 (σ (some ⟨w.heap.size + 1 + 1, 0, none⟩) 0 0) 0 []) := by
  have := World.ownsRow_made (base := w.heap.size + 1 + 1) (e := 47) (size := 3) W1 #[] 0 (by omega) (by unfold maxLen; omega) (by simp)
  rw [hs1] at this
  exact this
 have X0 := hide x0
 have HH := hide h
 have HS := hide (hS.ext x0)
 have HT := hide (hT.ext x0)
 have hl1 := hl.1
 have hsW : (W1.alloc (χ #[] 47)).heap.size = w.heap.size + 3 := by simp; omega
 clear hx h x0 y0 n1 c1 x1 hs1
 obtain ⟨s1, d1, rfl, _⟩ := hS
 obtain ⟨s2, d2, rfl, _⟩ := hT
 obtain ⟨⟨hk0, hk1⟩, hv, hin⟩ := hG
 obtain ⟨k, rfl⟩ : ∃ k : Nat, st = (k : Int) := ⟨st.toNat, by omega⟩
 have hk : k < ss.length := by omega
 have hL : Hid (readL ss k xs sv off = (offsL xs sv off).map fun p => (ss.getD k s0).2.getD p.toNat k0) := by show readL ss k xs sv off = _; unfold readL; rw [Int.toNat_natCast]
 rw [Int.toNat_natCast] at hin
 have hoff := hide (za2 HS.out HT.out off hv)
 have hOl := zs6 hv
 have hon : Hid (∀ p ∈ offsL xs sv off, 0 ≤ p ∧ p < ((ss.getD k s0).2.length : Int)) := fun p hp => ⟨(zj3 hv p hp).1, hin p hp⟩
 clear hin hv
 generalize hW0 : W1.alloc (χ #[] 47) = W0 at C0 O0 X0 HS HT hoff hsW
 subst hW1
 have HW0 := hide hW0
 clear hW0
 go_enter Tryz.func35, Tryz.ntmps35
 go_wp2_with fail
 rw [HW0.out]
 refine hoff.out.mono ?_
 rintro e w2 ⟨so, co, rfl, hO, x2⟩
 have HO := hide hO
 have HX2 := hide x2
 have c2' := Bel.box x2 C0.out
 have O2 : Hid (w2.ownsRow (w.heap.size + 1 + 1) 47 3 (σ (some ⟨w.heap.size + 1 + 1, 0, none⟩) 0 0) 0 []) := O0.out.kept (row := none) ⟨x2.os, x2.tape, x2.output, x2.size, fun k hk _ => x2.block k hk⟩ (Or.inr (by intro e; cases e))
 have hs2 : w.heap.size + 3 ≤ w2.heap.size := by have := Below.size x2; omega
 have X2 := hide (Bel.tr X0.out.bl x2)
 clear x2 hO C0 O0 X0 HS HT hoff HW0
 obtain ⟨sb0, cb0, eb0, hrow0⟩ := HH.out
 injection eb0 with eb1 _ eb2
 subst eb1 eb2
 rcases hrow0 with h0 | ⟨bs, os, rfl, hrow⟩
 ·rw [h0] at hk; simp at hk
 obtain ⟨q0, u, q1, q2⟩ := hrow k hk
 have hcl := hl.at k hk
 have Q2 := hide q2
 clear hrow q2
 obtain ⟨su, cu, rfl, _⟩ := Q2.out
 generalize (ss.getD k s0).1 = DT at q0
 generalize (ss.getD k s0).2 = cs at q1 Q2 hcl hL hon
 generalize offsL xs sv off = L at HO hOl hon hL ⊢
 have hb0 : bs < w.heap.size := zl q1
 have q1 := Bel.box X2.out q1
 have hM8 : (4096 + 1) * 24 ≤ 140737488355328 := by omega
 go_wp2_with fail
 go_loopw [7, 9] (fun o i wr => RdRel w2 (w.heap.size + 1 + 1) (fun p => cs.getD p.toNat k0) L o i wr) (fun o i _ => L.length - (intOf i).toNat)
 case atStart => exact ⟨0, rfl, by omega, O2.out, Or.inl rfl, ⟨rfl, rfl, rfl, Nat.le_refl _, fun _ _ _ => rfl⟩⟩
 case round =>
  obtain ⟨m, rfl, hm, hown, hob, hgr⟩ := hrel
  have HOW := hide hown
  have HOB := hide hob
  have HGR := hide hgr
  clear hown hob hgr
  by_cases hml : m < L.length
  ·rcases HO.out with h0 | ⟨g, rfl, hg1, hrowL, _⟩
   ·rw [h0] at hml; simp at hml
   have hmem := hon.out (L.getD m 0) (by rw [List.getD_eq_getElem?_getD, List.getElem?_eq_getElem hml]; exact List.getElem_mem hml)
   have l0 := hrowL m hml
   rw [Nat.zero_add] at l0
   have hgl := zl l0
   have HT2 := hide (zo15 (fun p => cs.getD p.toNat k0) L m hml)
   obtain ⟨x, hxx⟩ : ∃ x : Nat, L.getD m 0 = (x : Int) := ⟨(L.getD m 0).toNat, by omega⟩
   rw [hxx] at l0 hmem HT2
   rw [Int.toNat_natCast] at HT2
   have hxl : x < cs.length := by omega
   rcases Q2.out with ⟨su2, cu2, e2, h0 | ⟨bc, oc, e3, hrowC⟩⟩
   ·rw [h0] at hxl; simp at hxl
   injection e2 with e4 _ _
   subst e4
   subst e3
   have t0 := hrowC x hxl
   have t1 := t0.2.1
   have t2 := t0.2.2
   have t0 := t0.1
   have hbc := zl t0
   have t0 := Bel.box X2.out t0
   have t1 := Bel.box X2.out t1
   have t2 := Bel.box X2.out t2
   generalize cs.getD x k0 = cx at t0 t1 t2 HT2
   obtain ⟨A, B, C⟩ := cx
   clear hrowC hrowL hxx
   have hsr := HGR.out.size
   have s0' := zw HGR.out (by omega) c2'
   have s1' := zw HGR.out (by omega) q1
   have s2' := zw HGR.out (by omega) l0
   have s3' := zw HGR.out (by omega) t0
   have s4' := zw HGR.out (by omega) t1
   have s5' := zw HGR.out (by omega) t2
   have hm0 : (0 : Int) ≤ (m : Int) := Int.natCast_nonneg _
   have hm1 : (m : Int) < (L.length : Int) := by omega
   have hx0 : (0 : Int) ≤ (x : Int) := Int.natCast_nonneg _
   have hx1 : (x : Int) < (cs.length : Int) := by omega
   have SA : Hid ((fun w' => w'.cell? ⟨w.heap.size, 0, none⟩ = some (σ (some ⟨bs, os, none⟩) ss.length cap) ∧ w'.cell? ⟨bs, os + k * 2 + 1, none⟩ = some (σ (some ⟨bc, oc, none⟩) cs.length cu) ∧ w'.cell? ⟨g, m, none⟩ = some (O ι (x : Int)) ∧ w'.cell? ⟨bc, oc + x * 3, none⟩ = some (O ι A) ∧ w'.cell? ⟨bc, oc + x * 3 + 1, none⟩ = some (.float .f64 B) ∧ w'.cell? ⟨bc, oc + x * 3 + 2, none⟩ = some (.float .f64 C)) wr.drew) := ⟨s0', s1', s2', s3', s4', s5'⟩
   have hS : Hid (∀ W : World, w2.grownBy W (some (w.heap.size + 1 + 1)) → (fun w' => w'.cell? ⟨w.heap.size, 0, none⟩ = some (σ (some ⟨bs, os, none⟩) ss.length cap) ∧ w'.cell? ⟨bs, os + k * 2 + 1, none⟩ = some (σ (some ⟨bc, oc, none⟩) cs.length cu) ∧ w'.cell? ⟨g, m, none⟩ = some (O ι (x : Int)) ∧ w'.cell? ⟨bc, oc + x * 3, none⟩ = some (O ι A) ∧ w'.cell? ⟨bc, oc + x * 3 + 1, none⟩ = some (.float .f64 B) ∧ w'.cell? ⟨bc, oc + x * 3 + 2, none⟩ = some (.float .f64 C)) W) := fun W hW => ⟨zw hW (by omega) c2', zw hW (by omega) q1, zw hW (by omega) l0, zw hW (by omega) t0, zw hW (by omega) t1, zw hW (by omega) t2⟩
   have HGA := hide (zd15 (zu12 HGR.out (χ #[O ι A, .float .f64 B, .float .f64 C] 47)))
   have SB := hide (hS.out _ HGA.out)
   have hnews := World.news_of_block (w := (wr.alloc (χ #[O ι A, .float .f64 B, .float .f64 C] 47)).drew) (cs := #[O ι A, .float .f64 B, .float .f64 C]) (t := 47) (fr := (0, 0)) (heap_alloc_new wr _)
   have HN := hide hnews
   clear hnews
   have hbase : w.heap.size + 1 + 1 ≤ ((wr.alloc (χ #[O ι A, .float .f64 B, .float .f64 C] 47)).drew).heap.size := by show _ ≤ (wr.alloc _).heap.size; simp; omega
   have hH : ((wr.alloc (χ #[O ι A, .float .f64 B, .float .f64 C] 47)).drew).heap.size = wr.heap.size + 1 := by show (wr.alloc _).heap.size = _; simp
   have h63 : m + 1 ≤ maxLen := by unfold maxLen; omega
   have h24 : (m + 1) * 24 ≤ 140737488355328 := by omega
   go_wp2_with fail
   go_region_held3 (fun w' => w'.cell? ⟨w.heap.size, 0, none⟩ = some (σ (some ⟨bs, os, none⟩) ss.length cap) ∧ w'.cell? ⟨bs, os + k * 2 + 1, none⟩ = some (σ (some ⟨bc, oc, none⟩) cs.length cu) ∧ w'.cell? ⟨g, m, none⟩ = some (O ι (x : Int)) ∧ w'.cell? ⟨bc, oc + x * 3, none⟩ = some (O ι A) ∧ w'.cell? ⟨bc, oc + x * 3 + 1, none⟩ = some (.float .f64 B) ∧ w'.cell? ⟨bc, oc + x * 3 + 2, none⟩ = some (.float .f64 C)) (first | with_reducible exact SA.out | with_reducible exact SB.out | with_reducible exact SC.out | exact SA.out | exact SB.out | exact SC.out | fail) ((refine step_append_lies _ (by rfl) (.tmp 19) (.tmp 32) 39 (by rfl) (w.heap.size + 1 + 1) 47 i59 (γ #[O ι 0, .float .f64 0, .float .f64 0]) 3 24 Tryz.underlying39 hi59 hy0 hy1 hy2 rfl (by omega) _ m _ (by rfl) ((HOW.out.alloc _).drew) ⟨wr.heap.size, 0, none⟩ 1 1 (c3v (A, B, C)) (by rfl) (by rfl) HN.out (zp3 _) (by omega) h63 h24 hbase (wr.heap.size + 1) hH ?_; intro g9 cap9 w9 hown9 hgrow9 hat9 hlt9; have HG9 := hide (zc15 HGA.out hgrow9 HOB.out); have SC := hide (hS.out _ HG9.out); have HO9 := hide hown9; have HA9 := hide hat9; clear hown9 hgrow9 hat9))
   go_wp2
   go_roundw
   ·refine ⟨m + 1, by go_num, by omega, ?_, ?_, HG9.out⟩
    ·rw [HT2.out, zw2]
     exact HO9.out
    ·rcases HA9.out with e | e
     ·rcases HOB.out with q | ⟨z, q, hz⟩
      ·exact Or.inl (by rw [← q, e]; rfl)
      ·exact Or.inr ⟨z, by rw [← q, e]; rfl, hz⟩
     ·exact Or.inr ⟨g9, rfl, by omega⟩
   ·simp [intOf]; omega
  ·have hmm : m = L.length := by omega
   subst hmm
   have H1 := HOW.out
   rw [List.take_length] at H1
   obtain ⟨sz, cz, rfl, ho⟩ := zx4 (lo := w.heap.size) (by omega) H1
   have HB : Bel w wr := ⟨HGR.out.os.trans X2.out.os, HGR.out.tape.trans X2.out.tape, HGR.out.output.trans X2.out.output, Nat.le_trans X2.out.size HGR.out.size, fun j hj => (HGR.out.block j (Nat.lt_of_lt_of_le hj X2.out.size) (fun e => by cases e; omega)).trans (X2.out.block j hj)⟩
   have HHo := hide ho
   have HHB := hide HB
   clear ho H1 HB
   go_wp2
   go_ret
   rw [hL.out]
   exact ⟨sz, cz, rfl, HHo.out, HHB.out⟩
end
section
open Go.ChangeShapes Go.RowKit FL
structure HSp (w : World) (lo g : Nat) (cb : Nat → Nat) (ss : List St) : Prop where
 dt : ∀ j, j < ss.length → w.cell? ⟨g, j * 2, none⟩ = some (O ι (ss.getD j s0).1)
 sl : ∀ j, j < ss.length → ∃ sa cap, w.cell? ⟨g, j * 2 + 1, none⟩ = some (σ sa (ss.getD j s0).2.length cap) ∧ ((ss.getD j s0).2 = [] ∨ sa = some ⟨cb j, 0, none⟩)
 row : ∀ j, j < ss.length → (ss.getD j s0).2 ≠ [] → CRow w (cb j) 0 (ss.getD j s0).2
 fzr : ∀ j, j < ss.length → (ss.getD j s0).2 ≠ [] → ∀ o, w.frozen? ⟨cb j, o, none⟩ = false
 lo_g : lo ≤ g
 ne : ∀ j, j < ss.length → (ss.getD j s0).2 ≠ [] → cb j ≠ g ∧ lo ≤ cb j
 nd : ∀ i j, i < j → j < ss.length → (ss.getD i s0).2 ≠ [] → (ss.getD j s0).2 ≠ [] → cb i ≠ cb j
structure LcSt (w : World) (ss : List St) (k : Nat) (rv : Value) (U : Nat → Value) (cb : Nat → Nat) (wr : World) : Prop where
 bl : Bel w wr
 b0 : wr.cell? ⟨w.heap.size + 2, 0, none⟩ = some rv
 own : wr.ownsRow (w.heap.size + 3) 41 2 rv k (flatS U ss k)
 rs0 : wr.cell? ⟨w.heap.size + 1, 0, none⟩ = some (σ none 0 0)
 f1 : wr.frozen? ⟨w.heap.size + 1, 0, none⟩ = false
 f2 : wr.frozen? ⟨w.heap.size + 2, 0, none⟩ = false
 fzr : ∀ j, j < k → (ss.getD j s0).2 ≠ [] → ∀ o, wr.frozen? ⟨cb j, o, none⟩ = false
 us : ∀ j, j < k → ∃ sa cap, U j = σ sa (ss.getD j s0).2.length cap ∧ ((ss.getD j s0).2 = [] ∨ sa = some ⟨cb j, 0, none⟩)
 row : ∀ j, j < k → (ss.getD j s0).2 ≠ [] → CRow wr (cb j) 0 (ss.getD j s0).2
 lt : ∀ j, j < k → (ss.getD j s0).2 ≠ [] → w.heap.size + 3 ≤ cb j ∧ cb j < wr.heap.size ∧ rv.ownBlock ≠ some (cb j)
 inc : ∀ i j, i < j → j < k → (ss.getD i s0).2 ≠ [] → (ss.getD j s0).2 ≠ [] → cb i < cb j
theorem zu {w : World} {base e size n : Nat} {v : Value} {xs : List Value} (h : w.ownsRow base e size v n xs) {b o : Nat} {u : Value} (hb : v.ownBlock ≠ some b) : (w.setCell ⟨b, o, none⟩ u).ownsRow base e size v n xs := by
 refine ⟨h.1, ?_⟩
 rcases h.2 with h | ⟨g, cap, cur, rfl, h1, h2, h3⟩
 ·exact Or.inl h
 ·exact Or.inr ⟨g, cap, cur, rfl, h1, (Below.heap_setCell _ _ _ _ (fun e => hb (congrArg some e))).trans h2, h3⟩
theorem LcSt.step {w : World} {ss : List St} {k : Nat} {rv : Value} {U : Nat → Value} {cb : Nat → Nat} {wr : World} (h : LcSt w ss k rv U cb wr) {W5 w7 : World} (b5 : Bel wr W5) {tmp : Obj} (V : Value) (c g cap : Nat)
  (hV : ∃ sa cap, V = σ sa (ss.getD k s0).2.length cap ∧ ((ss.getD k s0).2 = [] ∨ sa = some ⟨c, 0, none⟩))
  (hr : (ss.getD k s0).2 ≠ [] → CRow W5 c 0 (ss.getD k s0).2 ∧ wr.heap.size ≤ c ∧ ∀ o, W5.frozen? ⟨c, o, none⟩ = false)
  (hown : w7.ownsRow (w.heap.size + 3) 41 2 (σ (some ⟨g, 0, none⟩) (k + 1) cap) (k + 1) (flatS U ss k ++ [O ι (ss.getD k s0).1, V])) (hgrow : (W5.alloc tmp).grownBy w7 rv.ownBlock) (hat : rv.ownBlock = some g ∨ g = W5.heap.size + 1) :
  LcSt w ss (k + 1) (σ (some ⟨g, 0, none⟩) (k + 1) cap) (fun j => if j = k then V else U j) (fun j => if j = k then c else cb j) (w7.setCell ⟨w.heap.size + 2, 0, none⟩ (σ (some ⟨g, 0, none⟩) (k + 1) cap)) := by
 have hs2 := zl h.b0
 have hs5 := Below.size b5
 have hs7 := hgrow.size
 rw [World.size_alloc] at hs7
 have hov : ∀ c, rv.ownBlock = some c → w.heap.size + 3 ≤ c ∧ c < wr.heap.size := fun c hc => h.own.lt c hc
 have hb7 : ∀ b, b < W5.heap.size → rv.ownBlock ≠ some b → w7.heap[b]? = W5.heap[b]? := fun b hb hn => by
  rw [hgrow.block b (by rw [World.size_alloc]; omega) (fun e => hn e.symm)]
  exact ((Below.refl W5.heap.size W5).alloc (Nat.le_refl _) tmp).block b hb
 have hb8 : ∀ b, b < W5.heap.size → rv.ownBlock ≠ some b → b ≠ w.heap.size + 2 → (w7.setCell ⟨w.heap.size + 2, 0, none⟩ (σ (some ⟨g, 0, none⟩) (k + 1) cap)).heap[b]? = W5.heap[b]? := fun b hb hn hn2 => (Below.heap_setCell _ _ _ _ hn2).trans (hb7 b hb hn)
 have hb9 : ∀ b, b < wr.heap.size → rv.ownBlock ≠ some b → b ≠ w.heap.size + 2 → (w7.setCell ⟨w.heap.size + 2, 0, none⟩ (σ (some ⟨g, 0, none⟩) (k + 1) cap)).heap[b]? = wr.heap[b]? := fun b hb hn hn2 => (hb8 b (by omega) hn hn2).trans (Below.block b5 b hb)
 have hno : ∀ b, b < w.heap.size + 3 → rv.ownBlock ≠ some b := fun b hb e => by have := hov b e; omega
 have hc2 : w7.cell? ⟨w.heap.size + 2, 0, none⟩ = some rv := (World.cell?_of_block (w := wr) (a := ⟨w.heap.size + 2, 0, none⟩) ((hb7 (w.heap.size + 2) (by omega) (hno _ (by omega))).trans (Below.block b5 (w.heap.size + 2) (by omega)))).trans h.b0
 have hcell : ∀ {b o v}, w.heap.size + 2 < b → rv.ownBlock ≠ some b → W5.cell? ⟨b, o, none⟩ = some v → (w7.setCell ⟨w.heap.size + 2, 0, none⟩ (σ (some ⟨g, 0, none⟩) (k + 1) cap)).cell? ⟨b, o, none⟩ = some v := fun {b o v} hb hn hc => (World.cell?_of_block (w := W5) (a := ⟨b, o, none⟩) (hb8 b (zl hc) hn (by omega))).trans hc
 have hcw : (ss.getD k s0).2 ≠ [] → rv.ownBlock ≠ some c ∧ c < W5.heap.size ∧ wr.heap.size ≤ c := fun hne => by
  obtain ⟨r1, r2, r3⟩ := hr hne
  have hlt := zl (r1 0 (List.length_pos_iff.2 hne)).1
  exact ⟨fun e => by have := hov c e; omega, hlt, r2⟩
 refine ⟨⟨?_, ?_, ?_, ?_, fun b hb => ?_⟩, ?_, ?_, ?_, ?_, ?_, fun j hj hne o => ?_, fun j hj => ?_, fun j hj hne => ?_, fun j hj hne => ?_, fun i j hij hj hi hjn => ?_⟩
 ·exact hgrow.os.trans (b5.os.trans h.bl.os)
 ·exact hgrow.tape.trans (b5.tape.trans h.bl.tape)
 ·exact hgrow.output.trans (b5.output.trans h.bl.output)
 ·have := Below.size h.bl; simp [World.setCell]; omega
 ·exact (hb9 b (by have := Below.size h.bl; omega) (hno b (by omega)) (by omega)).trans (Below.block h.bl b hb)
 ·exact World.cell?_setCell_same _ _ _ hc2
 ·rw [flatS, if_pos rfl, zr7 (V := U) (fun j hj => if_neg (by omega))]
  refine hown.kept (grownBy_setCell' w7 (w.heap.size + 2) _) (.inr (fun e => ?_))
  have := zv13 hown (by omega)
  simp [Value.ownBlock] at e
  omega
 ·exact (World.cell?_of_block (w := wr) (a := ⟨w.heap.size + 1, 0, none⟩) (hb9 (w.heap.size + 1) (by omega) (hno _ (by omega)) (by omega))).trans h.rs0
 ·exact (World.frozen?_of_block (w := wr) (a := ⟨w.heap.size + 1, 0, none⟩) (hb9 (w.heap.size + 1) (by omega) (hno _ (by omega)) (by omega))).trans h.f1
 ·rw [World.frozen?_setCell]
  exact (World.frozen?_of_block (w := wr) (a := ⟨w.heap.size + 2, 0, none⟩) ((hb7 (w.heap.size + 2) (by omega) (hno _ (by omega))).trans (Below.block b5 (w.heap.size + 2) (by omega)))).trans h.f2
 ·by_cases e : j = k
  ·subst e
   rw [if_pos rfl]
   obtain ⟨q1, q2, q3⟩ := hcw hne
   exact (World.frozen?_of_block (w := W5) (a := ⟨c, o, none⟩) (hb8 c q2 q1 (by omega))).trans ((hr hne).2.2 o)
  ·rw [if_neg e]
   have hl := h.lt j (by omega) hne
   exact (World.frozen?_of_block (w := wr) (a := ⟨cb j, o, none⟩) (hb9 (cb j) hl.2.1 hl.2.2 (by omega))).trans (h.fzr j (by omega) hne o)
 ·by_cases e : j = k
  ·subst e; rw [if_pos rfl, if_pos rfl]; exact hV
  ·rw [if_neg e, if_neg e]; exact h.us j (by omega)
 ·by_cases e : j = k
  ·subst e
   rw [if_pos rfl]
   obtain ⟨q1, q2, q3⟩ := hcw hne
   have r1 := (hr hne).1
   exact fun i hi => ⟨hcell (by omega) q1 (r1 i hi).1, hcell (by omega) q1 (r1 i hi).2.1, hcell (by omega) q1 (r1 i hi).2.2⟩
  ·rw [if_neg e]
   have hl := h.lt j (by omega) hne
   have hrw := (h.row j (by omega) hne).keep b5
   exact fun i hi => ⟨hcell (by omega) hl.2.2 (hrw i hi).1, hcell (by omega) hl.2.2 (hrw i hi).2.1, hcell (by omega) hl.2.2 (hrw i hi).2.2⟩
 ·by_cases e : j = k
  ·subst e
   rw [if_pos rfl]
   obtain ⟨q1, q2, q3⟩ := hcw hne
   refine ⟨by omega, by simp [World.setCell]; omega, fun z => ?_⟩
   simp only [Value.ownBlock] at z
   injection z with z
   rcases hat with q | q
   ·exact q1 (by rw [q, z])
   ·omega
  ·rw [if_neg e]
   have hl := h.lt j (by omega) hne
   refine ⟨hl.1, by simp [World.setCell]; omega, fun z => ?_⟩
   simp only [Value.ownBlock] at z
   injection z with z
   rcases hat with q | q
   ·exact hl.2.2 (by rw [q, z])
   ·omega
 ·by_cases e : j = k
  ·subst e
   rw [if_pos rfl, if_neg (by omega)]
   obtain ⟨q1, q2, q3⟩ := hcw hjn
   have hl := h.lt i (by omega) hi
   omega
  ·rw [if_neg e, if_neg (by omega)]
   exact h.inc i j hij (by omega) hi hjn
theorem LcSt.done {w : World} {ss : List St} {g cap : Nat} {U : Nat → Value} {cb : Nat → Nat} {wr : World} (h : LcSt w ss ss.length (σ (some ⟨g, 0, none⟩) ss.length cap) U cb wr) (h0 : 0 < ss.length) (v : Value) : HSp (wr.setCell ⟨w.heap.size + 1, 0, none⟩ v) w.heap.size g cb ss := by
 have hgl := zv13 h.own h0
 have hblk : ∀ b, b ≠ w.heap.size + 1 → (wr.setCell ⟨w.heap.size + 1, 0, none⟩ v).heap[b]? = wr.heap[b]? := fun b hb => Below.heap_setCell _ _ _ _ hb
 have hcell : ∀ {b o x}, b ≠ w.heap.size + 1 → wr.cell? ⟨b, o, none⟩ = some x → (wr.setCell ⟨w.heap.size + 1, 0, none⟩ v).cell? ⟨b, o, none⟩ = some x := fun {b o x} hb hc => (World.cell?_of_block (w := wr) (a := ⟨b, o, none⟩) (hblk b hb)).trans hc
 refine ⟨fun j hj => ?_, fun j hj => ?_, fun j hj hne => ?_, fun j hj hne o => ?_, by omega, fun j hj hne => ?_, fun i j hij hj hi hjn => by have := h.inc i j hij hj hi hjn; omega⟩
 ·exact hcell (by omega) ((h.own.cellAt _ (by omega)).trans (zk5 U ss ss.length j hj).1)
 ·obtain ⟨sa, cap, h1, h2⟩ := h.us j hj
  exact ⟨sa, cap, hcell (by omega) (((h.own.cellAt _ (by omega)).trans (zk5 U ss ss.length j hj).2).trans (by rw [h1])), h2⟩
 ·have hl := h.lt j hj hne
  have hrw := h.row j hj hne
  exact fun i hi => ⟨hcell (by omega) (hrw i hi).1, hcell (by omega) (hrw i hi).2.1, hcell (by omega) (hrw i hi).2.2⟩
 ·rw [World.frozen?_setCell]; exact h.fzr j hj hne o
 ·have hl := h.lt j hj hne
  exact ⟨fun e => hl.2.2 (by rw [e]; rfl), by omega⟩
theorem zs8 {w : World} {vv : Value} {ss : List St} (h : SV w vv ss) (hl : SL ss 1048576) (h0s : 0 < ss.length) :
  Calls Tryz.prog 39 #[γ #[vv]] w fun e w' => ∃ g cap cb, e = .returned (γ #[σ (some ⟨g, 0, none⟩) ss.length cap]) ∧ HSp w' w.heap.size g cb ss ∧ Bel w w' := by
 obtain ⟨i0, hi0, hz0, hz1, hz2⟩ := info_parts zy10
 obtain ⟨i6, hi6, hx0, hx1, hx2⟩ := info_parts zk4
 obtain ⟨sa, cap, rfl, hx⟩ := h
 have hl1 := hl.1
 obtain ⟨b, off, rfl, hsr⟩ : ∃ b off, sa = some ⟨b, off, none⟩ ∧ SRow w b off ss := by
  rcases hx with h0 | h0
  ·rw [h0] at h0s; simp at h0s
  ·exact h0
 have x1 : Ext w (((w.alloc (χ #[σ (some ⟨b, off, none⟩) ss.length cap] 25)).alloc (χ #[σ none 0 0] 25)).alloc (χ #[σ none 0 0] 25)) := (((Ext.refl w).alloc _ _).alloc _ _).alloc _ _
 have xa : Ext (w.alloc (χ #[σ (some ⟨b, off, none⟩) ss.length cap] 25)) (((w.alloc (χ #[σ (some ⟨b, off, none⟩) ss.length cap] 25)).alloc (χ #[σ none 0 0] 25)).alloc (χ #[σ none 0 0] 25)) := ((Ext.refl _).alloc _ _).alloc _ _
 have xb : Ext ((w.alloc (χ #[σ (some ⟨b, off, none⟩) ss.length cap] 25)).alloc (χ #[σ none 0 0] 25)) (((w.alloc (χ #[σ (some ⟨b, off, none⟩) ss.length cap] 25)).alloc (χ #[σ none 0 0] 25)).alloc (χ #[σ none 0 0] 25)) := (Ext.refl _).alloc _ _
 have KH := hide (xa.box (zg w #[σ (some ⟨b, off, none⟩) ss.length cap] 25 w.heap.size rfl 0))
 have S0 : Hid (LcSt w ss 0 (σ none 0 0) (fun _ => σ none 0 0) (fun _ => 0) (((w.alloc (χ #[σ (some ⟨b, off, none⟩) ss.length cap] 25)).alloc (χ #[σ none 0 0] 25)).alloc (χ #[σ none 0 0] 25))) :=
  ⟨x1.bl, zg ((w.alloc (χ #[σ (some ⟨b, off, none⟩) ss.length cap] 25)).alloc (χ #[σ none 0 0] 25)) #[σ none 0 0] 25 (w.heap.size + 2) (by simp) 0, ⟨rfl, Or.inl ⟨rfl, rfl⟩⟩, xb.box (zg (w.alloc (χ #[σ (some ⟨b, off, none⟩) ss.length cap] 25)) #[σ none 0 0] 25 (w.heap.size + 1) (by simp) 0), x1.unfrozen (by omega) 0, x1.unfrozen (by omega) 0, fun j hj => by omega, fun j hj => by omega, fun j hj => by omega, fun j hj => by omega, fun i j _ hj => by omega⟩
 have HSR := hide hsr
 have HL := hide hl
 clear hx hsr hl x1 xa xb
 go_enter Tryz.func39, Tryz.ntmps39
 go_wp2_with fail
 generalize (((w.alloc (χ #[σ (some ⟨b, off, none⟩) ss.length cap] 25)).alloc (χ #[σ none 0 0] 25)).alloc (χ #[σ none 0 0] 25)) = W0 at S0 KH ⊢
 go_loopw [4] (fun i wr => ∃ (k : Nat) (rv : Value) (U : Nat → Value) (cb : Nat → Nat), i = O ι k ∧ k ≤ ss.length ∧ LcSt w ss k rv U cb wr ∧ wr.cell? ⟨w.heap.size, 0, none⟩ = some (σ (some ⟨b, off, none⟩) ss.length cap)) (fun i _ => ss.length - (intOf i).toNat)
 case atStart => exact ⟨0, _, _, _, rfl, by omega, S0.out, KH.out⟩
 case round =>
  obtain ⟨k, rv, U, cb, rfl, hk, hC, kh⟩ := hrel
  obtain ⟨wo, rfl⟩ : ∃ wo, wo = wr := ⟨_, rfl⟩
  have HC := hide hC
  have KH2 := hide kh
  clear S0 KH hC
  by_cases hlt : k < ss.length
  ·obtain ⟨q0, u, q1, q2⟩ := (HSR.out.keep HC.out.bl) k hlt
   have hcl := HL.out.at k hlt
   have hk0 : (0 : Int) ≤ (k : Int) := Int.natCast_nonneg _
   have hk1 : (k : Int) < (ss.length : Int) := by omega
   have hsw := zl HC.out.b0
   have hh0 := zl kh
   have hbw : b < w.heap.size := zl (HSR.out k hlt).1
   generalize hD : (ss.getD k s0).1 = D at q0
   generalize hcs : (ss.getD k s0).2 = cs at q2 hcl
   have HD := hide hD
   have Hcs := hide hcs
   obtain ⟨su, cu, rfl, hcv⟩ := q2
   have HCV := hide hcv
   clear hD hcs hcv
   have x5 : Ext wo (wo.alloc (χ #[O ι D, σ none 0 0] 41)) := (Ext.refl wo).alloc _ _
   have nb := fun j => zg wo #[O ι D, σ none 0 0] 41 wo.heap.size rfl j
   have NB0 := hide (nb 0)
   have NB1 := hide (nb 1)
   have NF : Hid (∀ o, (wo.alloc (χ #[O ι D, σ none 0 0] 41)).frozen? ⟨wo.heap.size, o, none⟩ = false) := fun o => x5.unfrozen (Nat.le_refl _) o
   have X5 := hide x5.bl
   have Q1 := hide q1
   clear x5 nb
   go_wp2_with fail
   go_loopw [6] (fun i wv => ∃ (j : Nat) (v : Value), i = O ι j ∧ j ≤ cs.length ∧ Bel wo wv ∧ wv.cell? ⟨wo.heap.size, 0, none⟩ = some (O ι D) ∧ wv.cell? ⟨wo.heap.size, 1, none⟩ = some v ∧ (∀ o, wv.frozen? ⟨wo.heap.size, o, none⟩ = false) ∧ wv.ownsRow (wo.heap.size + 1) 47 3 v j (flat (cs.take j))) (fun i _ => cs.length - (intOf i).toNat)
   case atStart => exact ⟨0, _, rfl, by omega, X5.out, NB0.out, NB1.out, NF.out, ⟨rfl, Or.inl ⟨rfl, rfl⟩⟩⟩
   case round =>
    obtain ⟨j, v, rfl, hj, hBv, hv0, hv1, hvf, hvo⟩ := hrel
    have HBV := hide hBv
    have HVO := hide hvo
    have HVF := hide hvf
    have r0 := Bel.box hBv kh
    have r1 := Bel.box hBv Q1.out
    by_cases hjl : j < cs.length
    ·obtain ⟨bc, oc, rfl, hcr⟩ := HCV.out.resolve_left (fun e => by rw [e] at hjl; simp at hjl)
     obtain ⟨t0, t1, t2⟩ := (hcr.keep hBv) j hjl
     have hj0 : (0 : Int) ≤ (j : Int) := Int.natCast_nonneg _
     have hj1 : (j : Int) < (cs.length : Int) := by omega
     have HTK : Hid (flat (cs.take (j + 1)) = flat (cs.take j) ++ c3v (cs.getD j k0)) := by
      show _ = _
      rw [List.take_add_one, List.getElem?_eq_getElem hjl, List.getD_eq_getElem?_getD, List.getElem?_eq_getElem hjl]
      exact zw2 _ _
     have hbcw : bc < wo.heap.size := zl (hcr j hjl).1
     generalize cs.getD j k0 = cx at t0 t1 t2 HTK
     obtain ⟨X, Y, Z⟩ := cx
     simp only at t0 t1 t2
     have SA : Hid ((fun w' : World => w'.cell? ⟨wo.heap.size, 1, none⟩ = some v ∧ w'.cell? ⟨w.heap.size, 0, none⟩ = some (σ (some ⟨b, off, none⟩) ss.length cap) ∧ w'.cell? ⟨b, off + k * 2 + 1, none⟩ = some (σ (some ⟨bc, oc, none⟩) cs.length cu) ∧ w'.cell? ⟨bc, oc + j * 3, none⟩ = some (O ι X) ∧ w'.cell? ⟨bc, oc + j * 3 + 1, none⟩ = some (.float .f64 Y) ∧ w'.cell? ⟨bc, oc + j * 3 + 2, none⟩ = some (.float .f64 Z)) wr.drew) := ⟨hv1, r0, r1, t0, t1, t2⟩
     have hws := HBV.out.size
     have hsv := zl hv1
     have hd : decide ((j : Int) < (cs.length : Int)) = true := decide_eq_true (by omega)
     have hov : Hid (∀ c, v.ownBlock = some c → wo.heap.size + 1 ≤ c ∧ c < wr.heap.size) := fun c hc => HVO.out.lt c hc
     have HNW : Hid (∀ q u, (c3v (X, Y, Z))[q]? = some u → (wr.alloc (χ #[O ι X, .float .f64 Y, .float .f64 Z] 47)).cell? ((⟨wr.heap.size, 0, none⟩ : Addr).add q) = some u) := fun q u hq => by
      rw [Addr.add_lit, Nat.zero_add, zg wr _ 47 _ rfl q]
      simpa [c3v] using hq
     have hvf1 := hvf 1
     have HV0 := hide hv0
     clear hBv hvo hvf hcr t0 t1 t2 hv0
     go_wp2_with fail
     refine zv (S := (fun w' : World => w'.cell? ⟨wo.heap.size, 1, none⟩ = some v ∧ w'.cell? ⟨w.heap.size, 0, none⟩ = some (σ (some ⟨b, off, none⟩) ss.length cap) ∧ w'.cell? ⟨b, off + k * 2 + 1, none⟩ = some (σ (some ⟨bc, oc, none⟩) cs.length cu) ∧ w'.cell? ⟨bc, oc + j * 3, none⟩ = some (O ι X) ∧ w'.cell? ⟨bc, oc + j * 3 + 1, none⟩ = some (.float .f64 Y) ∧ w'.cell? ⟨bc, oc + j * 3 + 2, none⟩ = some (.float .f64 Z))) (late := [14]) (by kernel_rfl) ?_
     refine zd (i := 0) (v := π (some ⟨wo.heap.size, 1, none⟩)) rfl (by kernel_rfl) (by kernel_rfl) (fun _ _ _ h => by cases h.1) _ (by kernel_rfl) (by kernel_rfl) (Or.inl ⟨by rfl, ?_⟩) SA.out ?_
     ·rintro w' ⟨z0, z1, z2, z3, z4, z5⟩
      go_simp
     simp only [aP, sT, sZ, sS]
     refine zd (i := 1) (v := v) rfl (by kernel_rfl) (by kernel_rfl) (fun _ _ _ h => by cases h.1) _ (by kernel_rfl) (by kernel_rfl) (Or.inl ⟨by rfl, ?_⟩) SA.out ?_
     ·rintro w' ⟨z0, z1, z2, z3, z4, z5⟩
      go_simp
     simp only [aP, sT, sZ, sS]
     refine zd (i := 2) (v := π (some ⟨w.heap.size, 0, none⟩)) rfl (by kernel_rfl) (by kernel_rfl) (fun _ _ _ h => by cases h.1) _ (by kernel_rfl) (by kernel_rfl) (Or.inl ⟨by rfl, ?_⟩) SA.out ?_
     ·rintro w' ⟨z0, z1, z2, z3, z4, z5⟩
      go_simp
     simp only [aP, sT, sZ, sS]
     refine zd (i := 3) (v := σ (some ⟨b, off, none⟩) ss.length cap) rfl (by kernel_rfl) (by kernel_rfl) (fun _ _ _ h => by cases h.1) _ (by kernel_rfl) (by kernel_rfl) (Or.inl ⟨by rfl, ?_⟩) SA.out ?_
     ·rintro w' ⟨z0, z1, z2, z3, z4, z5⟩
      go_simp
     simp only [aP, sT, sZ, sS]
     refine zd (i := 4) (v := O ι k) rfl (by kernel_rfl) (by kernel_rfl) (fun _ _ _ h => by cases h.1) _ (by kernel_rfl) (by kernel_rfl) (Or.inl ⟨by rfl, ?_⟩) SA.out ?_
     ·rintro w' ⟨z0, z1, z2, z3, z4, z5⟩
      go_simp
     simp only [aP, sT, sZ, sS]
     refine zd (i := 5) (v := π (some ⟨b, off + k * 2, none⟩)) rfl (by kernel_rfl) (by kernel_rfl) (fun _ _ _ h => by cases h.1) _ (by kernel_rfl) (by kernel_rfl) (Or.inl ⟨by rfl, ?_⟩) SA.out ?_
     ·rintro w' ⟨z0, z1, z2, z3, z4, z5⟩
      go_simp
     simp only [aP, sT, sZ, sS]
     refine zd (i := 6) (v := π (some ⟨b, off + k * 2 + 1, none⟩)) rfl (by kernel_rfl) (by kernel_rfl) (fun _ _ _ h => by cases h.1) _ (by kernel_rfl) (by kernel_rfl) (Or.inl ⟨by rfl, ?_⟩) SA.out ?_
     ·rintro w' ⟨z0, z1, z2, z3, z4, z5⟩
      go_simp
     simp only [aP, sT, sZ, sS]
     refine zd (i := 7) (v := σ (some ⟨bc, oc, none⟩) cs.length cu) rfl (by kernel_rfl) (by kernel_rfl) (fun _ _ _ h => by cases h.1) _ (by kernel_rfl) (by kernel_rfl) (Or.inl ⟨by rfl, ?_⟩) SA.out ?_
     ·rintro w' ⟨z0, z1, z2, z3, z4, z5⟩
      go_simp
     simp only [aP, sT, sZ, sS]
     refine zd (i := 8) (v := O ι j) rfl (by kernel_rfl) (by kernel_rfl) (fun _ _ _ h => by cases h.1) _ (by kernel_rfl) (by kernel_rfl) (Or.inl ⟨by rfl, ?_⟩) SA.out ?_
     ·rintro w' ⟨z0, z1, z2, z3, z4, z5⟩
      go_simp
     simp only [aP, sT, sZ, sS]
     refine zd (i := 9) (v := π (some ⟨bc, oc + j * 3, none⟩)) rfl (by kernel_rfl) (by kernel_rfl) (fun _ _ _ h => by cases h.1) _ (by kernel_rfl) (by kernel_rfl) (Or.inl ⟨by rfl, ?_⟩) SA.out ?_
     ·rintro w' ⟨z0, z1, z2, z3, z4, z5⟩
      go_simp
     simp only [aP, sT, sZ, sS]
     refine zd (i := 10) (v := γ #[O ι X, .float .f64 Y, .float .f64 Z]) rfl (by kernel_rfl) (by kernel_rfl) (fun _ _ _ h => by cases h.1) _ (by kernel_rfl) (by kernel_rfl) (Or.inl ⟨by rfl, ?_⟩) SA.out ?_
     ·rintro w' ⟨z0, z1, z2, z3, z4, z5⟩
      go_simp
     simp only [aP, sT, sZ, sS]
     have xal : Ext wr (wr.alloc (χ #[O ι X, .float .f64 Y, .float .f64 Z] 47)).drew := ((Ext.refl wr).alloc _ _).drew
     have SB : Hid ((fun w' : World => w'.cell? ⟨wo.heap.size, 1, none⟩ = some v ∧ w'.cell? ⟨w.heap.size, 0, none⟩ = some (σ (some ⟨b, off, none⟩) ss.length cap) ∧ w'.cell? ⟨b, off + k * 2 + 1, none⟩ = some (σ (some ⟨bc, oc, none⟩) cs.length cu) ∧ w'.cell? ⟨bc, oc + j * 3, none⟩ = some (O ι X) ∧ w'.cell? ⟨bc, oc + j * 3 + 1, none⟩ = some (.float .f64 Y) ∧ w'.cell? ⟨bc, oc + j * 3 + 2, none⟩ = some (.float .f64 Z)) (wr.alloc (χ #[O ι X, .float .f64 Y, .float .f64 Z] 47)).drew) := ⟨xal.box SA.out.1, xal.box SA.out.2.1, xal.box SA.out.2.2.1, xal.box SA.out.2.2.2.1, xal.box SA.out.2.2.2.2.1, xal.box SA.out.2.2.2.2.2⟩
     refine ze (i := 11) (by kernel_rfl) rfl (fun K hK => ?_)
     go_simp
     refine hK.out _ _ (fun _ => SB.out) ?_
     clear hK K
     try simp only [aP, sT, sZ, sS]
     refine ze (i := 12) (by kernel_rfl) rfl (fun K hK => ?_)
     refine step_append_lies _ (by rfl) (.tmp 34) (.tmp 44) 39 (by rfl) (wo.heap.size + 1) 47 i6 (γ #[O ι 0, .float .f64 0, .float .f64 0]) 3 24 Tryz.underlying39 hi6 hx0 hx1 hx2 rfl (by decide) v j (flat (cs.take j)) (by rfl) ((HVO.out.alloc _).drew) ⟨wr.heap.size, 0, none⟩ 1 1 (c3v (X, Y, Z)) (by rfl) (by rfl) HNW.out (zp3 _) (by omega) (by unfold maxLen; omega) (by omega) (by simp; omega) (wr.heap.size + 1) (by simp) ?_
     intro g5 cap5 w5 hown5 hgrow5 hat5 hlt5
     have hno : ∀ c, c < wo.heap.size + 1 → v.ownBlock ≠ some c := fun c hc e => by have := hov.out c e; omega
     have hk5 : ∀ c, c < wo.heap.size + 1 → w5.heap[c]? = wr.heap[c]? := fun c hc => (hgrow5.block c (by simp; omega) (fun e => hno c hc e.symm)).trans (xal.bl.block c (by omega))
     have ck : ∀ {c o x}, c < wo.heap.size + 1 → wr.cell? ⟨c, o, none⟩ = some x → w5.cell? ⟨c, o, none⟩ = some x := fun {c o x} hc hx => (World.cell?_of_block (w := wr) (a := ⟨c, o, none⟩) (hk5 c hc)).trans hx
     have S5 : Hid ((fun w' : World => w'.cell? ⟨wo.heap.size, 1, none⟩ = some v ∧ w'.cell? ⟨w.heap.size, 0, none⟩ = some (σ (some ⟨b, off, none⟩) ss.length cap) ∧ w'.cell? ⟨b, off + k * 2 + 1, none⟩ = some (σ (some ⟨bc, oc, none⟩) cs.length cu) ∧ w'.cell? ⟨bc, oc + j * 3, none⟩ = some (O ι X) ∧ w'.cell? ⟨bc, oc + j * 3 + 1, none⟩ = some (.float .f64 Y) ∧ w'.cell? ⟨bc, oc + j * 3 + 2, none⟩ = some (.float .f64 Z)) w5) := ⟨ck (by omega) SA.out.1, ck (by omega) SA.out.2.1, ck (by omega) SA.out.2.2.1, ck (by omega) SA.out.2.2.2.1, ck (by omega) SA.out.2.2.2.2.1, ck (by omega) SA.out.2.2.2.2.2⟩
     refine hK.out _ _ (fun _ => S5.out) ?_
     clear hK K
     try simp only [aP, sT, sZ, sS]
     have c5 : w5.cell? ⟨wo.heap.size, 1, none⟩ = some v := S5.out.1
     have f5 : ∀ o, w5.frozen? ⟨wo.heap.size, o, none⟩ = false := fun o => (World.frozen?_of_block (w := wr) (a := ⟨wo.heap.size, o, none⟩) (hk5 wo.heap.size (by omega))).trans (HVF.out o)
     have f51 := f5 1
     have hs5 : wr.heap.size + 1 ≤ w5.heap.size := by have := hgrow5.size; simpa using this
     have HEND : Hid (Bel wo (w5.setCell ⟨wo.heap.size, 1, none⟩ (σ (some ⟨g5, 0, none⟩) (j + 1) cap5)) ∧ (w5.setCell ⟨wo.heap.size, 1, none⟩ (σ (some ⟨g5, 0, none⟩) (j + 1) cap5)).cell? ⟨wo.heap.size, 0, none⟩ = some (O ι D) ∧ (w5.setCell ⟨wo.heap.size, 1, none⟩ (σ (some ⟨g5, 0, none⟩) (j + 1) cap5)).cell? ⟨wo.heap.size, 1, none⟩ = some (σ (some ⟨g5, 0, none⟩) (j + 1) cap5) ∧ (∀ o, (w5.setCell ⟨wo.heap.size, 1, none⟩ (σ (some ⟨g5, 0, none⟩) (j + 1) cap5)).frozen? ⟨wo.heap.size, o, none⟩ = false) ∧ (w5.setCell ⟨wo.heap.size, 1, none⟩ (σ (some ⟨g5, 0, none⟩) (j + 1) cap5)).ownsRow (wo.heap.size + 1) 47 3 (σ (some ⟨g5, 0, none⟩) (j + 1) cap5) (j + 1) (flat (cs.take (j + 1)))) := by
      refine ⟨⟨?_, ?_, ?_, ?_, fun c hc => ?_⟩, ?_, World.cell?_setCell_same _ _ _ c5, fun o => by rw [World.frozen?_setCell]; exact f5 o, ?_⟩
      ·exact hgrow5.os.trans HBV.out.os
      ·exact hgrow5.tape.trans HBV.out.tape
      ·exact hgrow5.output.trans HBV.out.output
      ·simp [World.setCell]; omega
      ·exact (Below.heap_setCell _ _ _ _ (by show c ≠ wo.heap.size; omega)).trans ((hk5 c (by omega)).trans (HBV.out.block c hc))
      ·rw [World.cell?_setCell_other _ _ _ _ (by intro e; simp only [Addr.mk.injEq] at e; omega)]
       exact ck (by omega) HV0.out
      ·rw [HTK.out]
       refine zu hown5 (fun e => ?_)
       have := zv13 hown5 (by omega)
       simp [Value.ownBlock] at e
       omega
     clear hown5 hgrow5 hat5 hlt5 f5 hk5 hno xal
     refine zd (i := 13) (v := π (some ⟨wo.heap.size, 1, none⟩)) rfl (by kernel_rfl) (by kernel_rfl) (fun _ _ _ h => by cases h.1) _ (by kernel_rfl) (by kernel_rfl) (Or.inl ⟨by rfl, ?_⟩) S5.out ?_
     ·rintro w' ⟨z0, z1, z2, z3, z4, z5⟩
      go_simp
     simp only [aP, sT, sZ, sS]
     refine ze (i := 14) (by kernel_rfl) rfl (fun K hK => ?_)
     go_simp
     refine hK.out _ _ (fun h => absurd h (by decide)) ?_
     clear hK K
     try simp only [aP, sT, sZ, sS]
     refine zm (by kernel_rfl) ?_ _
     refine ⟨rfl, ?_⟩
     clear SA SB S5
     go_wp2_with fail
     go_roundw
     ·exact ⟨j + 1, _, by go_num, by omega, HEND.out⟩
     ·simp [intOf]; omega
    ·have hjj : j = cs.length := by omega
     have hov := HVO.out
     rw [hjj, List.take_length] at hov
     have HOV := hide hov
     have hd : decide ((j : Int) < (cs.length : Int)) = false := decide_eq_false (by omega)
     have hsv := zl hv1
     have c3 := Bel.box hBv HC.out.b0
     have f3 := (Below.frozen hBv (p := ⟨w.heap.size + 2, 0, none⟩) hsw).trans HC.out.f2
     have HOW := hide (zi12 HC.out.own hBv)
     have hws := HBV.out.size
     clear hov HVO
     obtain ⟨sv, cv, hvE, hvC⟩ : ∃ sv cv, v = σ sv cs.length cv ∧ (cs = [] ∨ ∃ c, sv = some ⟨c, 0, none⟩ ∧ CRow wr c 0 cs ∧ wo.heap.size + 1 ≤ c ∧ ∀ o, wr.frozen? ⟨c, o, none⟩ = false) := by
      obtain ⟨sv, cv, e1, e2⟩ := zx4 (lo := wo.heap.size + 1) (Nat.le_refl _) HOV.out
      refine ⟨sv, cv, e1, e2.imp id fun ⟨c, q1, q2, q3, q4⟩ => ⟨c, q1, q3, q2, q4⟩⟩
     subst hvE
     have HVC := hide hvC
     clear hvC hvo hBv hvf
     have hnew : ∀ q x, ([O ι D, σ sv cs.length cv] : List Value)[q]? = some x → (wr.alloc (χ #[O ι D, σ sv cs.length cv] 41)).cell? ((⟨wr.heap.size, 0, none⟩ : Addr).add q) = some x := fun q x hq => by
      rw [Addr.add_lit, Nat.zero_add, zg wr _ 41 _ rfl q]
      simpa using hq
     have Hnew := hide hnew
     clear hnew
     go_wp2_with (at_builtin; (refine wpList_append_lies _ rfl _ _ 23 rfl (w.heap.size + 3) 41 i0 (γ #[O ι 0, σ none 0 0]) 2 32 Tryz.underlying23 hi0 hz0 hz1 hz2 rfl (by decide) rv k (flatS U ss k) rfl (HOW.out.alloc _) ⟨wr.heap.size, 0, none⟩ 1 1 [O ι D, σ sv cs.length cv] rfl rfl Hnew.out (by simp [Value.oneCell']) (by omega) (by unfold maxLen; omega) (by omega) (by simp; omega) (wr.heap.size + 1) (by simp) ?_); intro g9 c9 w9 hown9 hgrow9 hat9 hlt9; have hno9 : ∀ c, c < w.heap.size + 3 → rv.ownBlock ≠ some c := (fun c hc e => by have := HC.out.own.lt c e; omega); have hbk9 : ∀ c, c < w.heap.size + 3 → w9.heap[c]? = wr.heap[c]? := (fun c hc => (hgrow9.block c (by simp; omega) (fun e => hno9 c hc e.symm)).trans (((Below.refl wr.heap.size wr).alloc (Nat.le_refl _) _).block c (by omega))); have c39 : w9.cell? ⟨w.heap.size + 1 + 1, 0, none⟩ = some rv := (World.cell?_of_block (w := wr) (a := ⟨w.heap.size + 2, 0, none⟩) (hbk9 (w.heap.size + 2) (by omega))).trans c3; have f39 : w9.frozen? ⟨w.heap.size + 1 + 1, 0, none⟩ = false := (World.frozen?_of_block (w := wr) (a := ⟨w.heap.size + 2, 0, none⟩) (hbk9 (w.heap.size + 2) (by omega))).trans f3; have k39 : w9.cell? ⟨w.heap.size, 0, none⟩ = some (σ (some ⟨b, off, none⟩) ss.length cap) := (World.cell?_of_block (w := wr) (a := ⟨w.heap.size, 0, none⟩) (hbk9 w.heap.size (by omega))).trans r0; have HO9 := hide hown9; have HG9 := hide hgrow9; have HA9 := hide hat9; have HK39 := hide k39; clear hown9 hgrow9 hat9 hlt9 hno9 hbk9 k39)
     have HST := hide (HC.out.step HBV.out (σ sv cs.length cv) (match sv with | some a => a.block | none => 0) g9 c9 ⟨sv, cv, by rw [Hcs.out], by
       rw [Hcs.out]
       rcases HVC.out with h | ⟨c, rfl, _⟩
       ·exact Or.inl h
       ·exact Or.inr rfl⟩ (fun hne => by
       rw [Hcs.out] at hne ⊢
       obtain ⟨c, rfl, q1, q2, q3⟩ := HVC.out.resolve_left hne
       exact ⟨q1, by show wo.heap.size ≤ c; omega, q3⟩) (by rw [HD.out]; exact HO9.out) HG9.out HA9.out)
     refine ⟨⟨k + 1, _, _, _, by go_num, by omega, HST.out, ?_⟩, ?_⟩
     ·rw [World.cell?_setCell_other _ _ _ _ (by intro e; simp only [Addr.mk.injEq] at e; omega)]
      exact HK39.out
     ·simp [intOf]; omega
  ·have hkk : k = ss.length := by omega
   subst hkk
   have c1 := HC.out.rs0
   have f1 := HC.out.f1
   have c3 := HC.out.b0
   obtain ⟨g, cg, rfl, _⟩ := zz17 HC.out.own h0s
   go_wp2
   refine bodyPost_ret (v := γ #[σ (some ⟨g, 0, none⟩) ss.length cg]) (by simp [results, Tryz.results39, go_sem, c1]) rfl ⟨g, cg, cb, rfl, HC.out.done h0s _, HC.out.bl.setCell (p := ⟨w.heap.size + 1, 0, none⟩) (by show _ ≤ w.heap.size + 1; omega) _⟩
end
section
open Go.ChangeShapes Go.RowKit
def frS (k n : Int) : Int := if k < 0 then k + n else k
theorem zj5 (k n : Int) (hk : -1048576 ≤ k ∧ k ≤ 1048576) (hn : 0 ≤ n ∧ n ≤ 1048576) (w : World) :
  Calls Tryz.prog 33 #[O ι k, O ι n] w fun e w' => e = .returned (O ι (frS k n)) ∧ w' = w := by
 by_cases h : k < 0
 ·go_enter Tryz.func33, Tryz.ntmps33
  go_wp2
  go_ret
  exact ⟨by rw [frS, if_pos h]; go_num, rfl⟩
 ·go_enter Tryz.func33, Tryz.ntmps33
  go_wp2
  go_ret
  exact ⟨by rw [frS, if_neg (by omega)]; rfl, rfl⟩
abbrev ixB (xs : List Int) (n : Int) : Prop := ∀ k ∈ xs, -n ≤ k ∧ k < n
def ixCd (xs : List Int) (n : Int) : Int := if ixB xs n then 0 else 8
theorem zg5 {w : World} {b off cap : Nat} {xs : List Int} (n : Int) (h : Row w b off xs) (hl : xs.length ≤ 1048576) (hn : 0 ≤ n ∧ n ≤ 1048576) :
  Calls Tryz.prog 26 #[σ (some ⟨b, off, none⟩) xs.length cap, O ι n] w fun e w' => e = .returned (O ι (ixCd xs n)) ∧ w' = w := by
 have HR := hide h
 clear h
 have n0 : (0 : Int) ≤ (xs.length : Int) := Int.natCast_nonneg _
 go_enter Tryz.func26, Tryz.ntmps26
 go_wp2_with fail
 go_loopw [6, 9] (fun s i wr => ∃ k : Nat, i = O ι k ∧ k ≤ xs.length ∧ (∀ j, j < k → -n ≤ xs.getD j 0 ∧ xs.getD j 0 < n) ∧ wr = w) (fun s i _ => xs.length - (intOf i).toNat)
 case atStart => exact ⟨0, rfl, by omega, fun j hj => by omega, rfl⟩
 case round =>
  obtain ⟨k, rfl, hk, hall, rfl⟩ := hrel
  have HA := hide hall
  clear hall
  by_cases hkn : k < xs.length
  ·have q0 := HR.out k hkn
   have k0' : (0 : Int) ≤ (k : Int) := Int.natCast_nonneg _
   have k1 : (k : Int) < (xs.length : Int) := by omega
   obtain ⟨c, hc⟩ : ∃ c, c = xs.getD k 0 := ⟨_, rfl⟩
   rw [← hc] at q0
   have HC := hide hc
   clear hc
   by_cases h1 : c < -n
   ·go_wp2_with fail
    go_ret
    refine ⟨?_, rfl⟩
    have e : ixCd xs n = 8 := by
     unfold ixCd
     rw [if_neg]
     intro q
     have z := q (xs.getD k 0) (by rw [List.getD_eq_getElem?_getD, List.getElem?_eq_getElem hkn]; exact List.getElem_mem hkn)
     have := HC.out
     omega
    rw [e]; rfl
   by_cases h2 : n ≤ c
   ·go_wp2_with fail
    go_ret
    refine ⟨?_, rfl⟩
    have e : ixCd xs n = 8 := by
     unfold ixCd
     rw [if_neg]
     intro q
     have z := q (xs.getD k 0) (by rw [List.getD_eq_getElem?_getD, List.getElem?_eq_getElem hkn]; exact List.getElem_mem hkn)
     have := HC.out
     omega
    rw [e]; rfl
   go_wp2_with fail
   go_roundw
   ·refine ⟨k + 1, by go_num, by omega, fun j hj => ?_, by trivial⟩
    by_cases z : j = k
    ·subst z
     rw [← HC.out]
     omega
    ·exact HA.out j (by omega)
   ·simp [intOf]; omega
  ·have hkk : k = xs.length := by omega
   subst hkk
   go_wp2
   go_ret
   refine ⟨?_, rfl⟩
   have e : ixCd xs n = 0 := by
    unfold ixCd
    rw [if_pos]
    intro c hc
    obtain ⟨j, hj, rfl⟩ := List.getElem_of_mem hc
    have z := HA.out j hj
    rw [List.getD_eq_getElem?_getD, List.getElem?_eq_getElem hj] at z
    exact z
   rw [e]; rfl
theorem zb22 : (Tryz.prog.info? 2).map (·.size) = some 1 := by kernel_rfl
theorem ze10 {w : World} {b off cap : Nat} {L : Int} (h : w.cell? ⟨b, off, none⟩ = some (O ι L)) :
  Calls Tryz.prog 42 #[σ (some ⟨b, off, none⟩) 1 cap] w fun e w' => e = .returned (γ #[O ι 1, O ι L, O ι 0, O ι 0, O ι 0]) ∧ Ext w w' := by
 have x0 := (((Ext.refl w).alloc #[O ι 0, O ι 0, O ι 0, O ι 0, O ι 0] 63).alloc #[O ι 1, O ι 0, O ι 0, O ι 0, O ι 0] 63)
 have q := x0.box h
 have hcp : (Builtin.copy_ #[26, 26] 3 #[σ (some ⟨w.heap.size + 1, 1, none⟩) 4 4, σ (some ⟨b, off, none⟩) 1 cap]).run Tryz.prog ((w.alloc (χ #[O ι 0, O ι 0, O ι 0, O ι 0, O ι 0] 63)).alloc (χ #[O ι 1, O ι 0, O ι 0, O ι 0, O ι 0] 63)) = .ok (goInt 1) (((w.alloc (χ #[O ι 0, O ι 0, O ι 0, O ι 0, O ι 0] 63)).alloc (χ #[O ι 1, O ι 0, O ι 0, O ι 0, O ι 0] 63)).setCell ⟨w.heap.size + 1, 1, none⟩ (O ι L)) := by
  refine run_copy_cells (P := Tryz.prog) _ 26 26 3 2 (w.heap.size + 1) 1 4 4 ⟨b, off, none⟩ 1 cap [O ι L] Tryz.underlying26 zb22 rfl ?_ ?_ (fun j _ => x0.unfrozen (by omega) _) (by simp [Value.oneCell'])
  ·intro j v hv
   match j with
   | 0 => 
    simp at hv
    subst hv
    exact q
   | j + 1 => simp at hv
  ·intro j hj
   simp at hj
   subst hj
   rw [zg _ #[O ι 1, O ι 0, O ι 0, O ι 0, O ι 0] 63 (w.heap.size + 1) (by simp) 1]
   rfl
 clear x0
 go_enter Tryz.func42, Tryz.ntmps42
 go_wp2_with fail
 refine bodyPost_ret (v := γ #[O ι 1, O ι L, O ι 0, O ι 0, O ι 0]) (by simp [results, Tryz.results42, go_sem]) rfl ⟨rfl, ((Ext.refl w).alloc _ _).alloc _ _⟩
end
section

end
section
open Go.ChangeShapes Go.RowKit

def lenE (xs : List Int) (i : Nat) : Int := if i < xs.length then xs.getD (xs.length - 1 - i) 0 else 1
def joinB (a b : Int) : Bool := decide (a = 1 ∨ b = 1 ∨ a = b)
def joinV (a b : Int) : Int := if a = 1 then b else a
def jv (xs ys : List Int) (d j : Nat) : Int := joinV (lenE xs (d - 1 - j)) (lenE ys (d - 1 - j))
structure JS (w wr : World) (n a0 a1 a2 a3 m b0 b1 b2 b3 : Int) (xs ys : List Int) (d k : Nat) : Prop where
 a : wr.cell? ⟨w.heap.size, 0, none⟩ = some (O ι n) ∧ wr.cell? ⟨w.heap.size, 1, none⟩ = some (O ι a0) ∧ wr.cell? ⟨w.heap.size, 2, none⟩ = some (O ι a1) ∧ wr.cell? ⟨w.heap.size, 3, none⟩ = some (O ι a2) ∧ wr.cell? ⟨w.heap.size, 4, none⟩ = some (O ι a3)
 b : wr.cell? ⟨w.heap.size + 1, 0, none⟩ = some (O ι m) ∧ wr.cell? ⟨w.heap.size + 1, 1, none⟩ = some (O ι b0) ∧ wr.cell? ⟨w.heap.size + 1, 2, none⟩ = some (O ι b1) ∧ wr.cell? ⟨w.heap.size + 1, 3, none⟩ = some (O ι b2) ∧ wr.cell? ⟨w.heap.size + 1, 4, none⟩ = some (O ι b3)
 r : ∀ j, j < 5 → wr.cell? ⟨w.heap.size + 1 + 1, j, none⟩ = some (O ι 0)
 o0 : wr.cell? ⟨w.heap.size + 1 + 1 + 1, 0, none⟩ = some (O ι d)
 oj : ∀ j, j < 4 → wr.cell? ⟨w.heap.size + 1 + 1 + 1, 1 + j, none⟩ = some (O ι (if j < d ∧ d ≤ j + k then jv xs ys d j else 0))
 ex : Ext w wr
def jn (xs ys : List Int) (d : Nat) : List Int := (List.range d).map (jv xs ys d)
abbrev Fits (xs ys : List Int) (k : Nat) : Prop := ∀ i, i < k → joinB (lenE xs i) (lenE ys i) = true
abbrev Joins (xs ys : List Int) (d : Nat) : Prop := Fits xs ys d ∧ prod (jn xs ys d) ≤ 4096
def dcJoins (xs ys : List Int) (d : Nat) : Bool := decide (Joins xs ys d)
theorem dcJoins_t {xs ys : List Int} {d : Nat} (h : Joins xs ys d) : dcJoins xs ys d = true := decide_eq_true h
theorem dcJoins_f {xs ys : List Int} {d : Nat} (h : ¬ Joins xs ys d) : dcJoins xs ys d = false := decide_eq_false h
def JoinOk (w : World) (xs ys : List Int) (d : Nat) (e : Ending) (w' : World) : Prop :=
 ∃ z a b c f : Int, e = .returned (.tuple #[γ #[O ι z, O ι a, O ι b, O ι c, O ι f], .bool (dcJoins xs ys d)]) ∧
  (Joins xs ys d → z = (jn xs ys d).length ∧ a = (jn xs ys d).getD 0 0 ∧ b = (jn xs ys d).getD 1 0 ∧ c = (jn xs ys d).getD 2 0 ∧ f = (jn xs ys d).getD 3 0) ∧ Ext w w'
theorem zq (w : World) (x : Value) (t : TypeId) : ∀ j u, [x][j]? = some u → (w.alloc (χ #[x] t)).cell? ((⟨w.heap.size, 0, none⟩ : Addr).add j) = some u := by
 intro j u hu
 have hj : j = 0 := by
  have := (List.getElem?_eq_some_iff.1 hu).1
  simpa using this
 subst hj
 simp at hu
 subst hu
 simp [Addr.add]
def bsL (xs ys : List Int) : Int × List Int := if Good xs ∧ Good ys ∧ Joins xs ys (max xs.length ys.length) then (0, jn xs ys (max xs.length ys.length)) else (6, [])
def BSOk (w : World) (xs ys : List Int) (e : Ending) (w' : World) : Prop :=
 ∃ (sa : Option Addr) (cap : Nat), e = .returned (γ #[O ι (bsL xs ys).1, σ sa (bsL xs ys).2.length cap]) ∧ OwnI w' w.heap.size sa (bsL xs ys).2 ∧ Below w.heap.size w w'
structure SB (w wr : World) (L : List Int) (k : Nat) (v : Value) : Prop where
 own : wr.ownsRow (w.heap.size + 1) 2 1 v k ((L.take k).map (Value.int .i64))
 bl : Below w.heap.size w wr
 r0 : wr.cell? ⟨w.heap.size, 0, none⟩ = some (O ι 0)
 r1 : wr.cell? ⟨w.heap.size, 1, none⟩ = some (σ none 0 0)
 rf : ∀ o, wr.frozen? ⟨w.heap.size, o, none⟩ = false
 sz : w.heap.size + 1 ≤ wr.heap.size
 nn : ∃ g cap, v = σ (some ⟨g, 0, none⟩) k cap




def BS2 (w : World) (c : Int) (L : List Int) (e : Ending) (w' : World) : Prop :=
 ∃ (sa : Option Addr) (cap : Nat), e = .returned (γ #[O ι c, σ sa L.length cap]) ∧ OwnI w' w.heap.size sa L ∧ Bel w w'
theorem zj4 {P : Program} (w : World) {ops : Array Oper} {o : Oper} {a : Act} {K : Act → World → Prop} {Q : Exit → Act → World → Prop} {E : Prop} (hgd : o.guard = none) (s x : Operand) (t : TypeId)
  (ho : o.op = .call { callee := .builtin .append, args := #[s, x], argTypes := #[t, t] })
  (base : Nat) (e : TypeId) (i : TypeInfo) (z : Value) (size bytes : Nat) (ht : P.underlying t = some (.slice e)) (hi : P.info? e = some i) (hz : i.zero = some z)
  (hsize : i.size = size) (hby : i.bytes = bytes) (hzs : z.cells.size = size) (hsz : 0 < size)
  (v : Value) (n : Nat) (xs : List Value) (hs : a.eval s = v) (hown : w.ownsRow base e size v n xs)
  (ad : Addr) (m c : Nat) (news : List Value) (hx : a.eval x = σ (some ad) m c) (hl : news.length = m * size) (hnews : ∀ j u, news[j]? = some u → w.cell? (ad.add j) = some u) (h1 : ∀ u ∈ news, u.oneCell' = true)
  (h63 : n + m ≤ maxLen) (hbytes : (n + m) * bytes ≤ 140737488355328) (hbase : base ≤ w.heap.size)
  (h : ∀ v' w', w'.ownsRow base e size v' (n + m) (xs ++ news) → w.grownBy w' v.ownBlock → (v'.ownBlock = v.ownBlock ∨ v'.ownBlock = some w.heap.size) → K (a.put o.dst v') w') :
  if Region.wanted o (yielded ops a.tmps) = true then Oper.wp P o a w K Q else E := by
 have hw : Region.wanted o (yielded ops a.tmps) = true := by simp [Region.wanted, hgd]
 rw [if_pos hw]
 obtain ⟨v', w', hr, h2, h3, _, h5⟩ := run_append_own_at (P := P) w base t o.type e i z size bytes ht hi hz hsize hby hzs hsz v n xs hown ad m c news hl hnews h1 h63 hbytes hbase
 unfold Oper.wp execOp
 simp only [ho, resolve, invoke, builtin, Sem.run_bind, Sem.run_pure, Result.andThen_ok, List.map_toArray, List.map_cons, List.map_nil, hs, hx, hr]
 exact h v' w' h2 h3 h5
theorem zn10 {w w' : World} {base e size n B : Nat} {v : Value} {xs : List Value} (h : w.ownsRow base e size v n xs) (x : Below B w w') (hb : ∀ g, v.ownBlock = some g → g < B) : w'.ownsRow base e size v n xs := by
 refine ⟨h.1, ?_⟩
 rcases h.2 with h | ⟨g, cap, cur, rfl, h1, h2, h3⟩
 ·exact Or.inl h
 ·exact Or.inr ⟨g, cap, cur, rfl, h1, by rw [x.block g (hb g rfl)]; exact h2, h3⟩
theorem zx18 {W : World} {R : Nat} {v0 v1 v2 u : Value} (h : W.cell? ⟨R, 0, none⟩ = some u) : (((W.setCell ⟨R, 0, none⟩ v0).setCell ⟨R, 1, none⟩ v1).setCell ⟨R, 2, none⟩ v2).cell? ⟨R, 0, none⟩ = some v0 :=
 zy1 (by omega) (zy1 (by omega) (World.cell?_setCell_same _ _ _ h))
theorem zw18 {W : World} {R : Nat} {v0 v1 v2 u : Value} (h : W.cell? ⟨R, 1, none⟩ = some u) : (((W.setCell ⟨R, 0, none⟩ v0).setCell ⟨R, 1, none⟩ v1).setCell ⟨R, 2, none⟩ v2).cell? ⟨R, 1, none⟩ = some v1 :=
 zy1 (by omega) (World.cell?_setCell_same _ _ _ (zy1 (by omega) h))
theorem zv18 {W : World} {R : Nat} {v0 v1 v2 u : Value} (h : W.cell? ⟨R, 2, none⟩ = some u) : (((W.setCell ⟨R, 0, none⟩ v0).setCell ⟨R, 1, none⟩ v1).setCell ⟨R, 2, none⟩ v2).cell? ⟨R, 2, none⟩ = some v2 :=
 World.cell?_setCell_same _ _ _ (zy1 (by omega) (zy1 (by omega) h))
theorem zn17 {w W : World} {v0 v1 v2 v3 : Value} (h : Bel w W) : Bel w ((((W.setCell ⟨w.heap.size + 1, 0, none⟩ v0).setCell ⟨w.heap.size + 1, 1, none⟩ v1).setCell ⟨w.heap.size + 1, 2, none⟩ v2).setCell ⟨w.heap.size + 1, 3, none⟩ v3) :=
 (((h.setCell (by show w.heap.size ≤ w.heap.size + 1; omega) _).setCell (by show w.heap.size ≤ w.heap.size + 1; omega) _).setCell (by show w.heap.size ≤ w.heap.size + 1; omega) _).setCell (by show w.heap.size ≤ w.heap.size + 1; omega) _
theorem zx3 {W : World} {R : Nat} {v0 v1 v2 v3 u : Value} (h : W.cell? ⟨R, 0, none⟩ = some u) : ((((W.setCell ⟨R, 0, none⟩ v0).setCell ⟨R, 1, none⟩ v1).setCell ⟨R, 2, none⟩ v2).setCell ⟨R, 3, none⟩ v3).cell? ⟨R, 0, none⟩ = some v0 :=
 zy1 (by omega) (zx18 h)
theorem zw3 {W : World} {R : Nat} {v0 v1 v2 v3 u : Value} (h : W.cell? ⟨R, 1, none⟩ = some u) : ((((W.setCell ⟨R, 0, none⟩ v0).setCell ⟨R, 1, none⟩ v1).setCell ⟨R, 2, none⟩ v2).setCell ⟨R, 3, none⟩ v3).cell? ⟨R, 1, none⟩ = some v1 :=
 zy1 (by omega) (zw18 h)
theorem zv3 {W : World} {R : Nat} {v0 v1 v2 v3 u : Value} (h : W.cell? ⟨R, 2, none⟩ = some u) : ((((W.setCell ⟨R, 0, none⟩ v0).setCell ⟨R, 1, none⟩ v1).setCell ⟨R, 2, none⟩ v2).setCell ⟨R, 3, none⟩ v3).cell? ⟨R, 2, none⟩ = some v2 :=
 zy1 (by omega) (zv18 h)
theorem zu3 {W : World} {R : Nat} {v0 v1 v2 v3 u : Value} (h : W.cell? ⟨R, 3, none⟩ = some u) : ((((W.setCell ⟨R, 0, none⟩ v0).setCell ⟨R, 1, none⟩ v1).setCell ⟨R, 2, none⟩ v2).setCell ⟨R, 3, none⟩ v3).cell? ⟨R, 3, none⟩ = some v3 :=
 World.cell?_setCell_same _ _ _ (zy1 (by omega) (zy1 (by omega) (zy1 (by omega) h)))
theorem zq6 {W : World} {base n : Nat} {v : Value} {L : List Int} (h : W.ownsRow base 2 1 v n (L.map (Value.int .i64))) : ∃ sa cap, v = σ sa n cap := by
 rcases h.2 with ⟨h1, h2⟩ | ⟨g, cap, cur, h1, _⟩
 ·exact ⟨none, 0, by rw [h1, h2]⟩
 ·exact ⟨_, cap, h1⟩
structure BW (w wr : World) (B : Nat) (vS vT : Value) (off : Int) (Ls Ss : List Int) (vA vB : Value) : Prop where
 p0 : wr.cell? ⟨w.heap.size, 0, none⟩ = some vS
 p1 : wr.cell? ⟨w.heap.size, 1, none⟩ = some vT
 r0 : wr.cell? ⟨w.heap.size + 1, 0, none⟩ = some (O ι 0)
 r1 : wr.cell? ⟨w.heap.size + 1, 1, none⟩ = some (σ none 0 0)
 r2 : wr.cell? ⟨w.heap.size + 1, 2, none⟩ = some (σ none 0 0)
 r3 : wr.cell? ⟨w.heap.size + 1, 3, none⟩ = some (O ι 0)
 rf : ∀ o, wr.frozen? ⟨w.heap.size + 1, o, none⟩ = false
 o0 : wr.cell? ⟨B, 0, none⟩ = some vA
 o1 : wr.cell? ⟨B, 1, none⟩ = some vB
 o2 : wr.cell? ⟨B, 2, none⟩ = some (O ι off)
 bf : ∀ o, wr.frozen? ⟨B, o, none⟩ = false
 ownA : wr.ownsRow (B + 1) 2 1 vA Ls.length (Ls.map (Value.int .i64))
 ownB : wr.ownsRow (B + 1) 2 1 vB Ss.length (Ss.map (Value.int .i64))
 dj : vA.ownBlock = none ∨ vA.ownBlock ≠ vB.ownBlock
 bl : Bel w wr
 sz : B + 1 ≤ wr.heap.size
 hB : w.heap.size + 1 < B
theorem BW.low {w wr : World} {B : Nat} {vS vT : Value} {off : Int} {Ls Ss : List Int} {vA vB : Value} (h : BW w wr B vS vT off Ls Ss vA vB) {W : World} (hk : ∀ k, k < B + 1 → W.heap[k]? = wr.heap[k]?) :
  (∀ {b o v}, b < B + 1 → wr.cell? ⟨b, o, none⟩ = some v → W.cell? ⟨b, o, none⟩ = some v) ∧ (∀ {b}, b < B + 1 → ∀ o, W.frozen? ⟨b, o, none⟩ = wr.frozen? ⟨b, o, none⟩) :=
 ⟨fun hb hc => (World.cell?_of_block (hk _ hb)).trans hc, fun hb o => World.frozen?_of_block (hk _ hb)⟩
theorem BW.stepA {w wr w3 : World} {B : Nat} {vS vT : Value} {off : Int} {Ls Ss : List Int} {vA vB : Value} (h : BW w wr B vS vT off Ls Ss vA vB) (x : Int) {v3 : Value}
  (hown : w3.ownsRow (B + 1) 2 1 v3 (Ls.length + 1) (Ls.map (Value.int .i64) ++ [O ι x])) (hgrow : (wr.alloc (χ #[O ι x] 2)).grownBy w3 vA.ownBlock)
  (hat : v3.ownBlock = vA.ownBlock ∨ v3.ownBlock = some (wr.alloc (χ #[O ι x] 2)).heap.size) : BW w (w3.setCell ⟨B, 0, none⟩ v3) B vS vT off (Ls ++ [x]) Ss v3 vB := by
 have hs := h.sz
 have hB := h.hB
 have hA : ∀ g, vA.ownBlock = some g → B + 1 ≤ g := fun g hg => (h.ownA.lt g hg).1
 have hk : ∀ k, k < B + 1 → w3.heap[k]? = wr.heap[k]? := fun k hk => by
  rw [hgrow.block k (by simp; omega) (by intro e; have := hA k e.symm; omega)]
  exact ((Ext.refl wr).alloc #[O ι x] 2).bl.block k (by omega)
 obtain ⟨cc, ff⟩ := h.low hk
 have m : Mut B w3 (w3.setCell ⟨B, 0, none⟩ v3) := (Mut.refl _ _).setCell _ _
 have h3 : v3.ownBlock ≠ some B := fun e => by
  have := (hown.lt B e).1
  omega
 have hBB : vB.ownBlock ≠ some B := fun e => by
  have := (h.ownB.lt B e).1
  omega
 have hsz := hgrow.size
 simp at hsz
 refine ⟨m.box (by omega) (cc (by omega) h.p0), m.box (by omega) (cc (by omega) h.p1), m.box (by omega) (cc (by omega) h.r0), m.box (by omega) (cc (by omega) h.r1), m.box (by omega) (cc (by omega) h.r2), m.box (by omega) (cc (by omega) h.r3), fun o => (m.fz _).trans ((ff (by omega) o).trans (h.rf o)),
  World.cell?_setCell_same _ _ _ (cc (by omega) h.o0), zy1 (by omega) (cc (by omega) h.o1), zy1 (by omega) (cc (by omega) h.o2), fun o => (m.fz _).trans ((ff (by omega) o).trans (h.bf o)), ?_, ?_, ?_, ?_, ?_, hB⟩
 ·have e : (Ls ++ [x]).map (Value.int .i64) = Ls.map (Value.int .i64) ++ [O ι x] := by simp
  rw [e, List.length_append]
  exact ownsRow_setCell_other hown h3 _
 ·refine ownsRow_setCell_other ((h.ownB.alloc _).kept hgrow ?_) hBB _
  cases hb : vB.ownBlock with
  | none => exact Or.inl rfl
  | some b =>
   refine Or.inr fun e => ?_
   rcases h.dj with q | q
   ·rw [q] at e; cases e
   ·exact q (by rw [hb, ← e])
 ·rcases hat with q | q
  ·rw [q]; exact h.dj
  ·refine Or.inr fun e => ?_
   rw [q] at e
   have := (h.ownB.lt _ e.symm).2
   simp at this
   omega
 ·exact ((h.bl.alloc (Below.size h.bl) _).grown hgrow (by have := Below.size h.bl; simp; omega) (fun j hj => by have := hA j hj; omega)).setCell (by show w.heap.size ≤ B; omega) _
 ·have : w3.heap.size ≤ (w3.setCell ⟨B, 0, none⟩ v3).heap.size := m.size
  omega
theorem BW.stepB {w wr w3 : World} {B : Nat} {vS vT : Value} {off : Int} {Ls Ss : List Int} {vA vB : Value} (h : BW w wr B vS vT off Ls Ss vA vB) (x : Int) {v3 : Value}
  (hown : w3.ownsRow (B + 1) 2 1 v3 (Ss.length + 1) (Ss.map (Value.int .i64) ++ [O ι x])) (hgrow : (wr.alloc (χ #[O ι x] 2)).grownBy w3 vB.ownBlock)
  (hat : v3.ownBlock = vB.ownBlock ∨ v3.ownBlock = some (wr.alloc (χ #[O ι x] 2)).heap.size) : BW w (w3.setCell ⟨B, 1, none⟩ v3) B vS vT off Ls (Ss ++ [x]) vA v3 := by
 have hs := h.sz
 have hB := h.hB
 have hA : ∀ g, vB.ownBlock = some g → B + 1 ≤ g := fun g hg => (h.ownB.lt g hg).1
 have hk : ∀ k, k < B + 1 → w3.heap[k]? = wr.heap[k]? := fun k hk => by
  rw [hgrow.block k (by simp; omega) (by intro e; have := hA k e.symm; omega)]
  exact ((Ext.refl wr).alloc #[O ι x] 2).bl.block k (by omega)
 obtain ⟨cc, ff⟩ := h.low hk
 have m : Mut B w3 (w3.setCell ⟨B, 1, none⟩ v3) := (Mut.refl _ _).setCell _ _
 have h3 : v3.ownBlock ≠ some B := fun e => by
  have := (hown.lt B e).1
  omega
 have hBB : vA.ownBlock ≠ some B := fun e => by
  have := (h.ownA.lt B e).1
  omega
 have hsz := hgrow.size
 simp at hsz
 refine ⟨m.box (by omega) (cc (by omega) h.p0), m.box (by omega) (cc (by omega) h.p1), m.box (by omega) (cc (by omega) h.r0), m.box (by omega) (cc (by omega) h.r1), m.box (by omega) (cc (by omega) h.r2), m.box (by omega) (cc (by omega) h.r3), fun o => (m.fz _).trans ((ff (by omega) o).trans (h.rf o)),
  zy1 (by omega) (cc (by omega) h.o0), World.cell?_setCell_same _ _ _ (cc (by omega) h.o1), zy1 (by omega) (cc (by omega) h.o2), fun o => (m.fz _).trans ((ff (by omega) o).trans (h.bf o)), ?_, ?_, ?_, ?_, ?_, hB⟩
 ·refine ownsRow_setCell_other ((h.ownA.alloc _).kept hgrow ?_) hBB _
  exact h.dj
 ·have e : (Ss ++ [x]).map (Value.int .i64) = Ss.map (Value.int .i64) ++ [O ι x] := by simp
  rw [e, List.length_append]
  exact ownsRow_setCell_other hown h3 _
 ·rcases h.dj with d | d
  ·exact Or.inl d
  ·rcases hat with q | q
   ·rw [q]; exact Or.inr d
   ·refine Or.inr fun e => ?_
    rw [q] at e
    have := (h.ownA.lt _ e).2
    simp at this
    omega
 ·exact ((h.bl.alloc (Below.size h.bl) _).grown hgrow (by have := Below.size h.bl; simp; omega) (fun j hj => by have := hA j hj; omega)).setCell (by show w.heap.size ≤ B; omega) _
 ·have : w3.heap.size ≤ (w3.setCell ⟨B, 1, none⟩ v3).heap.size := m.size
  omega
def VSOw (w : World) (c : Int) (L S : List Int) (o : Int) (e : Ending) (w' : World) : Prop :=
 ∃ (sa sb : Option Addr) (ca cb : Nat), e = .returned (γ #[O ι c, σ sa L.length ca, σ sb S.length cb, O ι o]) ∧ w'.ownsRow w.heap.size 2 1 (σ sa L.length ca) L.length (L.map (Value.int .i64)) ∧ w'.ownsRow w.heap.size 2 1 (σ sb S.length cb) S.length (S.map (Value.int .i64)) ∧ ((Value.slice sa L.length ca).ownBlock = none ∨ (Value.slice sa L.length ca).ownBlock ≠ (Value.slice sb S.length cb).ownBlock) ∧ Bel w w'
theorem zc2 {W : World} {base lo n : Nat} {v : Value} {L : List Value} (h : W.ownsRow base 2 1 v n L) (hb : lo ≤ base) : W.ownsRow lo 2 1 v n L := by
 refine ⟨h.1, ?_⟩
 rcases h.2 with q | ⟨g, cap, cur, h1, h2, h3⟩
 ·exact Or.inl q
 ·exact Or.inr ⟨g, cap, cur, h1, by omega, h3⟩
theorem zc4 {W : World} {base n R : Nat} {v : Value} {L : List Value} (h : W.ownsRow base 2 1 v n L) (hb : R < base) (v0 v1 v2 v3 : Value) : ((((W.setCell ⟨R, 0, none⟩ v0).setCell ⟨R, 1, none⟩ v1).setCell ⟨R, 2, none⟩ v2).setCell ⟨R, 3, none⟩ v3).ownsRow base 2 1 v n L :=
 ownsRow_setCell_below (ownsRow_setCell_below (ownsRow_setCell_below (ownsRow_setCell_below h (a := ⟨R, 0, none⟩) hb _) (a := ⟨R, 1, none⟩) hb _) (a := ⟨R, 2, none⟩) hb _) (a := ⟨R, 3, none⟩) hb _
theorem zp4 {w W : World} {c : Int} {L S : List Int} {o k : Int} (hr : (c, L, S, o) = (k, [], [], 0)) (h : Bel w W) {v0 v1 v2 v3 : Value} :
  VSOw w c L S o (.returned (γ #[O ι k, σ none 0 0, σ none 0 0, O ι 0])) ((((W.setCell ⟨w.heap.size + 1, 0, none⟩ v0).setCell ⟨w.heap.size + 1, 1, none⟩ v1).setCell ⟨w.heap.size + 1, 2, none⟩ v2).setCell ⟨w.heap.size + 1, 3, none⟩ v3) := by
 simp only [Prod.mk.injEq] at hr
 obtain ⟨rfl, rfl, rfl, rfl⟩ := hr
 exact ⟨none, none, 0, 0, rfl, World.ownsRow_nil _ _ _ _, World.ownsRow_nil _ _ _ _, Or.inl rfl, zn17 h⟩
theorem zd16 {W : World} {base n lo : Nat} {sa : Option Addr} {cap : Nat} {L : List Int} (h : W.ownsRow base 2 1 (σ sa n cap) n (L.map (Value.int .i64))) (hb : lo ≤ base) : IntsB W lo W.heap.size (σ sa n cap) L := by
 have hl : n = L.length := by have := h.1; simp at this; omega
 subst hl
 refine ⟨sa, cap, rfl, ?_⟩
 by_cases e : L = []
 ·exact Or.inl e
 rcases h.2 with ⟨h1, h2⟩ | ⟨g, cap2, cur, h1, h2, h3, _⟩
 ·exact absurd (List.eq_nil_of_length_eq_zero h2) e
 have hg : sa = some ⟨g, 0, none⟩ := by simp at h1; exact h1.1
 subst hg
 obtain ⟨hrow, _⟩ := zh8 h
 exact Or.inr ⟨g, 0, rfl, by omega, zl (hrow 0 (List.length_pos_iff.2 e)), hrow⟩
theorem zk19 {w wr : World} {B : Nat} {vS vT : Value} {off : Int} {Ls Ss : List Int} {sa sb : Option Addr} {na nb ca cb : Nat} (h : BW w wr B vS vT off Ls Ss (σ sa na ca) (σ sb nb cb)) (hna : na = Ls.length) (hnb : nb = Ss.length) {c : Int} {L S : List Int} {o : Int} (hr : (c, L, S, o) = (0, Ls, Ss, off)) {v0 v1 v2 v3 : Value} :
  VSOw w c L S o (.returned (γ #[O ι 0, σ sa na ca, σ sb nb cb, O ι off])) ((((wr.setCell ⟨w.heap.size + 1, 0, none⟩ v0).setCell ⟨w.heap.size + 1, 1, none⟩ v1).setCell ⟨w.heap.size + 1, 2, none⟩ v2).setCell ⟨w.heap.size + 1, 3, none⟩ v3) := by
 simp only [Prod.mk.injEq] at hr
 obtain ⟨rfl, rfl, rfl, rfl⟩ := hr
 subst hna
 subst hnb
 have hB := h.hB
 exact ⟨sa, sb, ca, cb, rfl, zc2 (zc4 h.ownA (by omega) _ _ _ _) (by omega), zc2 (zc4 h.ownB (by omega) _ _ _ _) (by omega), h.dj, zn17 h.bl⟩
theorem BW.start {w W : World} {vS vT : Value} {off : Int} (hs : w.heap.size + 1 < W.heap.size) (hb : Bel w W) (p0 : W.cell? ⟨w.heap.size, 0, none⟩ = some vS) (p1 : W.cell? ⟨w.heap.size, 1, none⟩ = some vT)
  (r0 : W.cell? ⟨w.heap.size + 1, 0, none⟩ = some (O ι 0)) (r1 : W.cell? ⟨w.heap.size + 1, 1, none⟩ = some (σ none 0 0)) (r2 : W.cell? ⟨w.heap.size + 1, 2, none⟩ = some (σ none 0 0)) (r3 : W.cell? ⟨w.heap.size + 1, 3, none⟩ = some (O ι 0)) (rf : ∀ o, W.frozen? ⟨w.heap.size + 1, o, none⟩ = false) :
  BW w (W.alloc (χ #[σ none 0 0, σ none 0 0, O ι off] 28)) W.heap.size vS vT off [] [] (σ none 0 0) (σ none 0 0) := by
 have x : Ext W (W.alloc (χ #[σ none 0 0, σ none 0 0, O ι off] 28)) := (Ext.refl W).alloc _ _
 have n := fun j => zg W #[σ none 0 0, σ none 0 0, O ι off] 28 W.heap.size rfl j
 exact ⟨x.box p0, x.box p1, x.box r0, x.box r1, x.box r2, x.box r3, fun o => (x.fz _).trans (rf o), n 0, n 1, n 2, fun o => x.unfrozen (Nat.le_refl _) o, World.ownsRow_nil _ _ _ _, World.ownsRow_nil _ _ _ _, Or.inl rfl, Bel.tr hb x.bl, by simp, hs⟩
structure LB (w W : World) (vS vT vP : Value) (off : Int) (xs ss ys : List Int) : Prop where
 a0 : W.cell? ⟨w.heap.size, 0, none⟩ = some vS
 a1 : W.cell? ⟨w.heap.size, 1, none⟩ = some vT
 a2 : W.cell? ⟨w.heap.size, 2, none⟩ = some (O ι off)
 hS : IntsB W 0 w.heap.size vS xs
 hT : IntsB W 0 w.heap.size vT ss
 hP : IntsB W 0 w.heap.size vP ys
 z : Below w.heap.size w W
end
section
open Go.ChangeShapes Go.RowKit Go.Shelf
attribute [local go_sem] Oper.semAt_some
def ups (off : Int) (n : Nat) : List Int := (List.range n).map (fun i : Nat => off + (i : Int))
theorem zm15 (off : Int) (n : Nat) : (ups off n).length = n := by simp [ups]
end
section
open Go.ChangeShapes Go.RowKit Go.Shelf
theorem zd11 (xs : List Int) (k j : Nat) : (xs.drop k).getD j 0 = xs.getD (k + j) 0 := by
 simp [List.getD_eq_getElem?_getD, List.getElem?_drop]
theorem zs18 {xs : List Int} (hr : InR xs xs.length) (k : Nat) : InR (xs.drop k) (xs.drop k).length := fun j hj => by
 rw [zd11]
 rw [List.length_drop] at hj
 exact hr _ (by omega)
theorem zi17 {xs : List Int} (h4 : xs.length ≤ 4) (hr : InR xs xs.length) (k m : Nat) (hm : m ≤ (xs.drop k).length) : 0 ≤ prod ((xs.drop k).take m) ∧ prod ((xs.drop k).take m) ≤ 281474976710656 := by
 have hl : (xs.drop k).length ≤ 4 := by rw [List.length_drop]; omega
 have h := zh2 (xs.drop k) m (by omega) hm (fun j hj => zs18 hr k j (by omega))
 have := zx9 m
 omega
def rmS (xs : List Int) : List Int := (List.range xs.length).map fun i => if prod xs = 0 then 0 else prod (xs.drop (i + 1))
theorem zt5 (xs : List Int) : (rmS xs).length = xs.length := by simp [rmS]
theorem zk13 (xs : List Int) (j : Nat) : (rmS xs).getD j 0 = if j < xs.length then (if prod xs = 0 then 0 else prod (xs.drop (j + 1))) else 0 := by
 unfold rmS
 by_cases h : j < xs.length
 ·rw [if_pos h]; simp [List.getD_eq_getElem?_getD, h]
 ·rw [if_neg h]; simp [List.getD_eq_getElem?_getD, h]
theorem zh7 : ∀ (xs ss : List Int) (at_ : Int), xs.length = ss.length → (∀ n ∈ xs, 1 ≤ n) → (places xs ss at_).head? = some at_
 | [], ss, at_, hl, h => by simp [places]
 | n :: ns, [], at_, hl, h => by simp at hl
 | n :: ns, s :: ss, at_, hl, h => by
  have hn : 1 ≤ n := h n (by simp)
  obtain ⟨m, hm⟩ : ∃ m, n.toNat = m + 1 := ⟨n.toNat - 1, by omega⟩
  have ih := zh7 ns ss at_ (by simpa using hl) (fun m hm => h m (by simp [hm]))
  simp only [places]
  rw [hm, List.range_succ_eq_map, List.flatMap_cons]
  have e0 : at_ + ((0 : Nat) : Int) * s = at_ := by simp
  rw [e0, List.head?_append, ih]
  rfl
theorem zm16 {xs ss : List Int} {off : Int} (hv : ValidV xs ss off) : offsL xs ss off = [] ∨ (offsL xs ss off).head? = some off := by
 unfold offsL
 by_cases hz : prod xs = 0
 ·rw [if_pos hz]; exact Or.inl rfl
 ·rw [if_neg hz]
  exact Or.inr (zh7 xs ss off hv.2.1.symm (zl4 hv.1.2.1 hz))
def GoUp (L : List Int) (k : Nat) : Prop := ∀ i, i + 1 < k → L.getD (i + 1) 0 = L.getD i 0 + 1
theorem GoUp.step {L : List Int} {k : Nat} (h : GoUp L (k + 1)) (e : L.getD (k + 1) 0 = L.getD k 0 + 1) : GoUp L (k + 1 + 1) := fun i hi => by
 by_cases q : i = k
 ·subst q; exact e
 ·exact h i (by omega)
theorem zf9 (off : Int) (n j : Nat) (h : j < n) : (ups off n).getD j 0 = off + (j : Int) := by
 simp [ups, List.getD_eq_getElem?_getD, h]
theorem zp18 {L : List Int} {off : Int} (h : L = [] ∨ L.head? = some off) : L = ups off L.length ↔ GoUp L L.length := by
 constructor
 ·intro e i hi
  rw [e, zf9 _ _ _ hi, zf9 _ _ _ (by omega)]
  omega
 ·intro g
  rcases h with h | h
  ·subst h; rfl
  ·have key : ∀ j, j < L.length → L.getD j 0 = off + (j : Int) := by
    intro j
    induction j with
    | zero =>
     intro hj
     rw [List.getD_eq_getElem?_getD, ← List.head?_eq_getElem?, h]
     simp
    | succ j ih =>
     intro hj
     rw [g j hj, ih (by omega)]
     omega
   refine List.ext_getElem (by rw [zm15]) fun j h1 h2 => ?_
   have a := key j h1
   have b := zf9 off L.length j h1
   rw [List.getD_eq_getElem?_getD, List.getElem?_eq_getElem h1] at a
   rw [List.getD_eq_getElem?_getD, List.getElem?_eq_getElem h2] at b
   exact a.trans b.symm
def rsL (xs ss : List Int) (off : Int) (ys : List Int) : Int × List Int × List Int × Int :=
 if ValidV xs ss off then (if Good ys ∧ prod ys = prod xs then (if offsL xs ss off = ups off (offsL xs ss off).length then (0, ys, rmS ys, off) else (13, [], [], 0)) else (6, [], [], 0)) else (12, [], [], 0)
end
section
open Go.ChangeShapes Go.RowKit
theorem zv2 {C w3 : World} {row : Option Nat} (h : C.drew.grownBy w3 row) : C.grownBy w3 row := ⟨h.os, h.tape, h.output, h.size, h.block⟩
theorem zr6 {C : World} {base e size n : Nat} {v : Value} {xs : List Value} (h : C.ownsRow base e size v n xs) : C.drew.ownsRow base e size v n xs := h
theorem zy13 {C : World} {ad : Addr} {L : List Value} (h : ∀ j u, L[j]? = some u → C.cell? (ad.add j) = some u) : ∀ j u, L[j]? = some u → C.drew.cell? (ad.add j) = some u := h
theorem zl19 {w W : World} {c : Int} {L S : List Int} {o : Int} {e : Ending} (h : VSOw w c L S o e W) : VSOw w c L S o e W.drew := by
 obtain ⟨sa, sb, ca, cb, h1, h2, h3, hd, h4⟩ := h
 exact ⟨sa, sb, ca, cb, h1, zr6 h2, zr6 h3, hd, Bel.tr h4 (zz _)⟩
theorem BW.keep {w wr W : World} {B : Nat} {vS vT : Value} {off : Int} {Ls Ss : List Int} {vA vB : Value} (h : BW w wr B vS vT off Ls Ss vA vB) (x : Bel wr W) : BW w W B vS vT off Ls Ss vA vB := by
 have fz : ∀ {b : Nat}, b < wr.heap.size → ∀ o, W.frozen? ⟨b, o, none⟩ = wr.frozen? ⟨b, o, none⟩ := fun hb o => Below.frozen x (p := ⟨_, o, none⟩) hb
 have hs := h.sz
 have hB := h.hB
 exact ⟨x.box h.p0, x.box h.p1, x.box h.r0, x.box h.r1, x.box h.r2, x.box h.r3, fun o => (fz (by omega) o).trans (h.rf o), x.box h.o0, x.box h.o1, x.box h.o2, fun o => (fz (by omega) o).trans (h.bf o), zn10 h.ownA x (fun g hg => (h.ownA.lt g hg).2), zn10 h.ownB x (fun g hg => (h.ownB.lt g hg).2), h.dj, Bel.tr h.bl x, Nat.le_trans hs (Below.size x), hB⟩
theorem BW.al0 {w wr : World} {B : Nat} {vS vT : Value} {off : Int} {Ls Ss : List Int} {vA vB : Value} (h : BW w wr B vS vT off Ls Ss vA vB) (x : Int) : (wr.alloc (χ #[O ι x] 2)).drew.cell? ⟨B, 0, none⟩ = some vA := ((Ext.refl wr).alloc #[O ι x] 2).box h.o0
theorem BW.szD {w wr : World} {B : Nat} {vS vT : Value} {off : Int} {Ls Ss : List Int} {vA vB : Value} (h : BW w wr B vS vT off Ls Ss vA vB) (x : Int) : B + 1 ≤ (wr.alloc (χ #[O ι x] 2)).drew.heap.size := by
 have h1 : wr.heap.size ≤ (wr.alloc (χ #[O ι x] 2)).heap.size := Below.size ((Ext.refl wr).alloc #[O ι x] 2).bl
 exact Nat.le_trans h.sz h1
theorem zg2 {W : World} {base n : Nat} {v : Value} {L : List Value} (h : W.ownsRow base 2 1 v n L) : ∃ sa cap, v = σ sa n cap := by
 rcases h.2 with ⟨h1, h2⟩ | ⟨g, cap, cur, h1, _⟩
 ·exact ⟨none, 0, by rw [h1, h2]⟩
 ·exact ⟨_, cap, h1⟩
theorem zt1 (x : Int) : ∀ u ∈ [Value.int .i64 x], u.oneCell' = true := fun u hu => by simp at hu; subst hu; rfl
theorem BW.at3 {w wr w3 : World} {B : Nat} {vS vT : Value} {off x : Int} {Ls Ss : List Int} {vA vB : Value} (h : BW w wr B vS vT off Ls Ss vA vB) (hgrow : (wr.alloc (χ #[O ι x] 2)).grownBy w3 vA.ownBlock) :
  w3.cell? ⟨B, 0, none⟩ = some vA ∧ w3.cell? ⟨B, 1, none⟩ = some vB ∧ ∀ o, w3.frozen? ⟨B, o, none⟩ = false := by
 have hs := h.sz
 have hA : ∀ g, vA.ownBlock = some g → B + 1 ≤ g := fun g hg => (h.ownA.lt g hg).1
 have hk : w3.heap[B]? = wr.heap[B]? := by
  rw [hgrow.block B (by simp; omega) (by intro e; have := hA B e.symm; omega)]
  exact ((Ext.refl wr).alloc #[O ι x] 2).bl.block B (by omega)
 exact ⟨(World.cell?_of_block hk).trans h.o0, (World.cell?_of_block hk).trans h.o1, fun o => (World.frozen?_of_block hk).trans (h.bf o)⟩
theorem BW.at3B {w wr w3 : World} {B : Nat} {vS vT : Value} {off x : Int} {Ls Ss : List Int} {vA vB : Value} (h : BW w wr B vS vT off Ls Ss vA vB) (hgrow : (wr.alloc (χ #[O ι x] 2)).grownBy w3 vB.ownBlock) :
  w3.cell? ⟨B, 0, none⟩ = some vA ∧ w3.cell? ⟨B, 1, none⟩ = some vB ∧ ∀ o, w3.frozen? ⟨B, o, none⟩ = false := by
 have hs := h.sz
 have hA : ∀ g, vB.ownBlock = some g → B + 1 ≤ g := fun g hg => (h.ownB.lt g hg).1
 have hk : w3.heap[B]? = wr.heap[B]? := by
  rw [hgrow.block B (by simp; omega) (by intro e; have := hA B e.symm; omega)]
  exact ((Ext.refl wr).alloc #[O ι x] 2).bl.block B (by omega)
 exact ⟨(World.cell?_of_block hk).trans h.o0, (World.cell?_of_block hk).trans h.o1, fun o => (World.frozen?_of_block hk).trans (h.bf o)⟩
structure CL (w wr : World) (L : List Int) (v : Value) : Prop where
 own : wr.ownsRow w.heap.size 2 1 v L.length (L.map (Value.int .i64))
 bl : Bel w wr
theorem CL.step {w wr w3 : World} {L : List Int} {v v3 : Value} (h : CL w wr L v) (x : Int)
  (hown : w3.ownsRow w.heap.size 2 1 v3 (L.length + 1) (L.map (Value.int .i64) ++ [O ι x])) (hgrow : (wr.alloc (χ #[O ι x] 2)).grownBy w3 v.ownBlock) : CL w w3 (L ++ [x]) v3 := by
 refine ⟨?_, (h.bl.alloc (Below.size h.bl) _).grown hgrow (by have := Below.size h.bl; simp; omega) (fun j hj => (h.own.lt j hj).1)⟩
 rw [List.length_append, List.map_append]
 exact hown
theorem CL.start (w : World) : CL w (w.alloc (χ #[] 2)) [] (σ (some ⟨w.heap.size, 0, none⟩) 0 0) :=
 ⟨World.ownsRow_made (base := w.heap.size) (e := 2) (size := 1) w #[] 0 (Nat.le_refl _) (by unfold maxLen; omega) rfl, ((Ext.refl w).alloc _ _).bl⟩
theorem CL.szD {w wr : World} {L : List Int} {v : Value} (h : CL w wr L v) (x : Int) : w.heap.size ≤ (wr.alloc (χ #[O ι x] 2)).drew.heap.size := by
 have h1 : wr.heap.size ≤ (wr.alloc (χ #[O ι x] 2)).heap.size := Below.size ((Ext.refl wr).alloc #[O ι x] 2).bl
 exact Nat.le_trans (Below.size h.bl) h1
theorem CL.szP {w wr : World} {L : List Int} {v : Value} (h : CL w wr L v) (x : Int) : w.heap.size ≤ (wr.alloc (χ #[O ι x] 2)).heap.size := h.szD x
def CRel (w : World) (xs : List Int) (o i : Value) (wr : World) : Prop := ∃ k : Nat, i = O ι k ∧ k ≤ xs.length ∧ (∃ s c, o = σ s k c) ∧ CL w wr (xs.take k) o
def OwnCI (w' : World) (lo : Nat) (sa : Option Addr) (cap : Nat) (L : List Int) : Prop := OwnI w' lo sa L ∧ w'.ownsRow lo 2 1 (σ sa L.length cap) L.length (L.map (Value.int .i64))
def ListOw (w : World) (L : List Int) (e : Ending) (w' : World) : Prop :=
 ∃ (sa : Option Addr) (cap : Nat), e = .returned (σ sa L.length cap) ∧ OwnCI w' w.heap.size sa cap L ∧ Below w.heap.size w w'
theorem zf20 {w' : World} {lo : Nat} {sa : Option Addr} {L : List Int} (h : OwnI w' lo sa L) (hL : 0 < L.length) : ∃ g, sa = some ⟨g, 0, none⟩ ∧ lo ≤ g ∧ Row w' g 0 L ∧ ∀ o, w'.frozen? ⟨g, o, none⟩ = false := by
 rcases h with rfl | h
 ·simp at hL
 ·exact h
theorem zh6 {w : World} {v : Value} {xs : List Int} (h : Ints w v xs) (hl : xs.length ≤ 4) :
  Calls Tryz.prog 80 #[v] w fun e w' => ListOw w xs e w' := by
 obtain ⟨i0, hi0, hz0, hz1, hz2⟩ := info_parts zy7
 obtain ⟨sa, cap, rfl, hx⟩ := h
 have HX := hide hx
 clear hx
 have hone : 0 < 1 := Nat.one_pos
 have S0 := hide (CL.start w)
 go_enter Tryz.func80, Tryz.ntmps80
 go_wp2_with fail
 go_loopw [3, 4] (fun o i wr => CRel w xs o i wr) (fun o i _ => xs.length - (intOf i).toNat)
 case atStart => exact ⟨0, rfl, by omega, ⟨_, _, rfl⟩, by simpa using S0.out⟩
 case round =>
  obtain ⟨k, rfl, hk, ⟨s, c, rfl⟩, hC⟩ := hrel
  have HC := hide hC
  clear hC
  by_cases hlt : k < xs.length
  ·rcases HX.out with h0 | ⟨b, off, rfl, hrow⟩
   ·rw [h0] at hlt; simp at hlt
   have q0 := Bel.box HC.out.bl (hrow k hlt)
   have hk0 : (0 : Int) ≤ (k : Int) := Int.natCast_nonneg _
   have hk1 : (k : Int) < (xs.length : Int) := by omega
   have hlT : (xs.take k).length = k := by rw [List.length_take]; omega
   have hsn := hide (ze1 xs k hlt)
   generalize xs.getD k 0 = x at q0 hsn
   generalize hT : xs.take k = T at HC hlT hsn
   subst hlT
   go_wp2_with (at_builtin; (refine wpList_append_own _ rfl _ _ 26 rfl w.heap.size 2 i0 (O ι 0) 1 8 Tryz.underlying26 hi0 hz0 hz1 hz2 rfl (by decide) _ _ _ rfl (HC.out.own.alloc _) ⟨wr.heap.size, 0, none⟩ 1 1 [O ι x] rfl rfl (zq _ _ _) (zt1 _) (by unfold maxLen; omega) (by omega) (HC.out.szP x) ?_); intro v3 w3 hown3 hgrow3 hnil3)
   have St := HC.out.step x hown3 hgrow3
   obtain ⟨s3, c3, rfl⟩ := zg2 hown3
   have HSt := hide St
   clear St hown3 hgrow3 hnil3
   go_wp2
   go_roundw
   ·exact ⟨T.length + 1, by go_num, by omega, ⟨_, _, rfl⟩, by rw [hsn.out]; exact HSt.out⟩
   ·simp [intOf]; omega
  ·have hkk : k = xs.length := by omega
   subst hkk
   have hC := HC.out
   rw [List.take_length] at hC
   have HC2 := hide hC
   clear hC HC
   go_wp2
   go_ret
   obtain ⟨sb, cb, hv, ho⟩ := za19 (w := w) (Nat.le_refl _) HC2.out.own
   have hw := HC2.out.own
   rw [hv] at hw
   exact ⟨sb, cb, congrArg Ending.returned hv, ⟨ho, hw⟩, HC2.out.bl⟩
end
section
open Go.ChangeShapes Go.RowKit Go.Shelf
structure RW (w W : World) (B : Nat) (off : Int) (ys Ss : List Int) (vA vB : Value) : Prop where
 r0 : W.cell? ⟨w.heap.size + 1, 0, none⟩ = some (O ι 0)
 r1 : W.cell? ⟨w.heap.size + 1, 1, none⟩ = some (σ none 0 0)
 r2 : W.cell? ⟨w.heap.size + 1, 2, none⟩ = some (σ none 0 0)
 r3 : W.cell? ⟨w.heap.size + 1, 3, none⟩ = some (O ι 0)
 rf : ∀ o, W.frozen? ⟨w.heap.size + 1, o, none⟩ = false
 o0 : W.cell? ⟨B, 0, none⟩ = some vA
 o1 : W.cell? ⟨B, 1, none⟩ = some vB
 o2 : W.cell? ⟨B, 2, none⟩ = some (O ι off)
 bf : ∀ o, W.frozen? ⟨B, o, none⟩ = false
 gA : W.ownsRow (w.heap.size + 2) 2 1 vA ys.length (ys.map (Value.int .i64)) ∧ vA.ownBlock ≠ some B ∧ (vA.ownBlock = none ∨ vA.ownBlock ≠ vB.ownBlock)
 ownB : W.ownsRow (B + 1) 2 1 vB Ss.length (Ss.map (Value.int .i64))
 bl : Bel w W
 sz : B + 1 ≤ W.heap.size
 hB : w.heap.size + 1 < B
theorem RW.step {w wr w3 : World} {B : Nat} {off : Int} {ys Ss : List Int} {vA vB : Value} (h : RW w wr B off ys Ss vA vB) (x : Int) {v3 : Value}
  (hown : w3.ownsRow (B + 1) 2 1 v3 (Ss.length + 1) (Ss.map (Value.int .i64) ++ [O ι x])) (hgrow : (wr.alloc (χ #[O ι x] 2)).grownBy w3 vB.ownBlock)
  (hat : v3.ownBlock = vB.ownBlock ∨ v3.ownBlock = some (wr.alloc (χ #[O ι x] 2)).heap.size) : RW w (w3.setCell ⟨B, 1, none⟩ v3) B off ys (Ss ++ [x]) vA v3 := by
 have hs := h.sz
 have hB := h.hB
 have hb1 : ∀ g, vB.ownBlock = some g → B + 1 ≤ g := fun g hg => (h.ownB.lt g hg).1
 have hk : ∀ k, k < wr.heap.size → vB.ownBlock ≠ some k → w3.heap[k]? = wr.heap[k]? := fun k hk hn => by
  rw [hgrow.block k (by simp; omega) (by intro e; exact hn e.symm)]
  exact ((Ext.refl wr).alloc #[O ι x] 2).bl.block k (by omega)
 have hlow : ∀ k, k < B + 1 → w3.heap[k]? = wr.heap[k]? := fun k hk' => hk k (by omega) (fun e => by have := hb1 k e; omega)
 have cc : ∀ {b o v}, b < B + 1 → wr.cell? ⟨b, o, none⟩ = some v → w3.cell? ⟨b, o, none⟩ = some v := fun hb hc => (World.cell?_of_block (hlow _ hb)).trans hc
 have ff : ∀ {b}, b < B + 1 → ∀ o, w3.frozen? ⟨b, o, none⟩ = wr.frozen? ⟨b, o, none⟩ := fun hb o => World.frozen?_of_block (hlow _ hb)
 have m : Mut B w3 (w3.setCell ⟨B, 1, none⟩ v3) := (Mut.refl _ _).setCell _ _
 have h3 : v3.ownBlock ≠ some B := fun e => by
  have := (hown.lt B e).1
  omega
 have hsz := hgrow.size
 simp at hsz
 refine ⟨m.box (by omega) (cc (by omega) h.r0), m.box (by omega) (cc (by omega) h.r1), m.box (by omega) (cc (by omega) h.r2), m.box (by omega) (cc (by omega) h.r3), fun o => (m.fz _).trans ((ff (by omega) o).trans (h.rf o)), zy1 (by omega) (cc (by omega) h.o0), World.cell?_setCell_same _ _ _ (cc (by omega) h.o1), zy1 (by omega) (cc (by omega) h.o2), fun o => (m.fz _).trans ((ff (by omega) o).trans (h.bf o)), ?_, ?_, ?_, ?_, hB⟩
 ·obtain ⟨g1, g2, g3⟩ := h.gA
  refine ⟨ownsRow_setCell_other ((g1.alloc _).kept hgrow g3) g2 _, g2, ?_⟩
  rcases g3 with g3 | g3
  ·exact Or.inl g3
  ·rcases hat with q | q
   ·rw [q]; exact Or.inr g3
   ·refine Or.inr fun e => ?_
    rw [q] at e
    have := (g1.lt _ e).2
    simp at this
    omega
 ·have e : (Ss ++ [x]).map (Value.int .i64) = Ss.map (Value.int .i64) ++ [O ι x] := by simp
  rw [e, List.length_append]
  exact ownsRow_setCell_other hown h3 _
 ·exact ((h.bl.alloc (Below.size h.bl) _).grown hgrow (by have := Below.size h.bl; simp; omega) (fun j hj => by have := hb1 j hj; omega)).setCell (by show w.heap.size ≤ B; omega) _
 ·have : w3.heap.size ≤ (w3.setCell ⟨B, 1, none⟩ v3).heap.size := m.size
  omega
theorem RW.szP {w wr : World} {B : Nat} {off : Int} {ys Ss : List Int} {vA vB : Value} (h : RW w wr B off ys Ss vA vB) (x : Int) : B + 1 ≤ (wr.alloc (χ #[O ι x] 2)).heap.size := by
 have h1 : wr.heap.size ≤ (wr.alloc (χ #[O ι x] 2)).heap.size := Below.size ((Ext.refl wr).alloc #[O ι x] 2).bl
 exact Nat.le_trans h.sz h1
theorem RW.late {w wr w3 : World} {off : Int} {ys : List Int} {sg : Option Addr} {cg : Nat} (hb : Bel w wr) (hs : w.heap.size + 1 < wr.heap.size)
  (t0 : wr.cell? ⟨w.heap.size + 1, 0, none⟩ = some (O ι 0)) (t1 : wr.cell? ⟨w.heap.size + 1, 1, none⟩ = some (σ none 0 0)) (t2 : wr.cell? ⟨w.heap.size + 1, 2, none⟩ = some (σ none 0 0)) (t3 : wr.cell? ⟨w.heap.size + 1, 3, none⟩ = some (O ι 0)) (tf : ∀ o, wr.frozen? ⟨w.heap.size + 1, o, none⟩ = false)
  (hO : OwnCI w3 wr.drew.heap.size sg cg ys) (x3 : Below wr.drew.heap.size wr.drew w3) : RW w (w3.alloc (χ #[σ sg ys.length cg, σ none 0 0, O ι off] 28)) w3.heap.size off ys [] (σ sg ys.length cg) (σ none 0 0) := by
 have hss0 : wr.drew.heap.size ≤ w3.heap.size := Below.size x3
 have hss : wr.heap.size ≤ w3.heap.size := hss0
 have y : Ext w3 (w3.alloc (χ #[σ sg ys.length cg, σ none 0 0, O ι off] 28)) := (Ext.refl w3).alloc _ _
 have n := fun j => zg w3 #[σ sg ys.length cg, σ none 0 0, O ι off] 28 w3.heap.size rfl j
 have cc : ∀ {b o v}, wr.cell? ⟨b, o, none⟩ = some v → (w3.alloc (χ #[σ sg ys.length cg, σ none 0 0, O ι off] 28)).cell? ⟨b, o, none⟩ = some v := fun hc => y.box (Bel.box x3 hc)
 refine ⟨cc t0, cc t1, cc t2, cc t3, fun o => (y.fz _).trans ((Below.frozen x3 (p := ⟨w.heap.size + 1, o, none⟩) hs).trans (tf o)), n 0, n 1, n 2, fun o => y.unfrozen (Nat.le_refl _) o, ⟨zi3 (zc2 hO.2 hs) y.bl, ?_, ?_⟩, World.ownsRow_nil _ _ _ _, Bel.tr (Bel.tr hb (zz wr)) (Bel.tr x3 y.bl), by simp, by omega⟩
 ·intro e
  have := (hO.2.lt _ e).2
  omega
 ·cases q : (Value.slice sg ys.length cg).ownBlock with
  | none => exact Or.inl rfl
  | some g => exact Or.inr (by simp [Value.ownBlock])
theorem RW.early {w wr w3 : World} {off : Int} {ys : List Int} {sg : Option Addr} {cg : Nat} (hb : Bel w wr) (hs : w.heap.size + 1 < wr.heap.size)
  (t0 : wr.cell? ⟨w.heap.size + 1, 0, none⟩ = some (O ι 0)) (t1 : wr.cell? ⟨w.heap.size + 1, 1, none⟩ = some (σ none 0 0)) (t2 : wr.cell? ⟨w.heap.size + 1, 2, none⟩ = some (σ none 0 0)) (t3 : wr.cell? ⟨w.heap.size + 1, 3, none⟩ = some (O ι 0)) (tf : ∀ o, wr.frozen? ⟨w.heap.size + 1, o, none⟩ = false)
  (hO : OwnCI w3 (wr.alloc (χ #[σ none 0 0, σ none 0 0, O ι 0] 28)).drew.heap.size sg cg ys) (x3 : Below (wr.alloc (χ #[σ none 0 0, σ none 0 0, O ι 0] 28)).drew.heap.size (wr.alloc (χ #[σ none 0 0, σ none 0 0, O ι 0] 28)).drew w3)
  (e0 : w3.cell? ⟨wr.heap.size, 0, none⟩ = some (σ none 0 0)) (e1 : w3.cell? ⟨wr.heap.size, 1, none⟩ = some (σ none 0 0)) (e2 : w3.cell? ⟨wr.heap.size, 2, none⟩ = some (O ι 0)) (ef : ∀ o, w3.frozen? ⟨wr.heap.size, o, none⟩ = false) :
  RW w (((w3.setCell ⟨wr.heap.size, 0, none⟩ (σ sg ys.length cg)).setCell ⟨wr.heap.size, 1, none⟩ (σ none 0 0)).setCell ⟨wr.heap.size, 2, none⟩ (O ι off)) wr.heap.size off ys [] (σ sg ys.length cg) (σ none 0 0) := by
 have z : Ext wr (wr.alloc (χ #[σ none 0 0, σ none 0 0, O ι 0] 28)).drew := ((Ext.refl wr).alloc _ _).drew
 have hs1 : (wr.alloc (χ #[σ none 0 0, σ none 0 0, O ι 0] 28)).drew.heap.size = wr.heap.size + 1 := by
  show (wr.alloc (χ #[σ none 0 0, σ none 0 0, O ι 0] 28)).heap.size = _; simp
 have hss := Below.size x3
 rw [hs1] at hss
 have m : Mut wr.heap.size w3 (((w3.setCell ⟨wr.heap.size, 0, none⟩ (σ sg ys.length cg)).setCell ⟨wr.heap.size, 1, none⟩ (σ none 0 0)).setCell ⟨wr.heap.size, 2, none⟩ (O ι off)) := (((Mut.refl _ _).setCell _ _).setCell _ _).setCell _ _
 have cc : ∀ {b o v}, b < wr.heap.size → wr.cell? ⟨b, o, none⟩ = some v → (((w3.setCell ⟨wr.heap.size, 0, none⟩ (σ sg ys.length cg)).setCell ⟨wr.heap.size, 1, none⟩ (σ none 0 0)).setCell ⟨wr.heap.size, 2, none⟩ (O ι off)).cell? ⟨b, o, none⟩ = some v := fun hb hc => m.box (by omega) (Bel.box x3 (z.box hc))
 have hb3 : Bel w w3 := Bel.tr (Bel.tr hb z.bl) x3
 refine ⟨cc hs t0, cc hs t1, cc hs t2, cc hs t3, fun o => (m.fz _).trans ((Below.frozen x3 (p := ⟨w.heap.size + 1, o, none⟩) (by rw [hs1]; show w.heap.size + 1 < wr.heap.size + 1; omega)).trans ((z.fz _).trans (tf o))), zy1 (by omega) (zy1 (by omega) (World.cell?_setCell_same _ _ _ e0)), zy1 (by omega) (World.cell?_setCell_same _ _ _ (zy1 (by omega) e1)), World.cell?_setCell_same _ _ _ (zy1 (by omega) (zy1 (by omega) e2)), fun o => (m.fz _).trans (ef o), ⟨?_, ?_, ?_⟩, World.ownsRow_nil _ _ _ _, ((hb3.setCell (by show w.heap.size ≤ wr.heap.size; omega) _).setCell (by show w.heap.size ≤ wr.heap.size; omega) _).setCell (by show w.heap.size ≤ wr.heap.size; omega) _, Nat.le_trans hss m.size, hs⟩
 ·refine ownsRow_setCell_other (ownsRow_setCell_other (ownsRow_setCell_other (zc2 hO.2 (by rw [hs1]; omega)) ?_ _) ?_ _) ?_ _
  all_goals
   intro e
   have h1 : (Value.slice sg ys.length cg).ownBlock = some wr.heap.size := e
   have := (hO.2.lt _ h1).1
   rw [hs1] at this
   omega
 ·intro e
  have := (hO.2.lt _ e).1
  rw [hs1] at this
  omega
 ·cases q : (Value.slice sg ys.length cg).ownBlock with
  | none => exact Or.inl rfl
  | some g => exact Or.inr (by simp [Value.ownBlock])
theorem zs22 {w wr w3 : World} {B : Nat} {off x : Int} {ys Ss : List Int} {vA vB : Value} (h : RW w wr B off ys Ss vA vB) (hgrow : (wr.alloc (χ #[O ι x] 2)).grownBy w3 vB.ownBlock) : w3.cell? ⟨B, 1, none⟩ = some vB := by
 have hs := h.sz
 have hk : w3.heap[B]? = wr.heap[B]? := by
  rw [hgrow.block B (by simp; omega) (by intro e; have := (h.ownB.lt B e.symm).1; omega)]
  exact ((Ext.refl wr).alloc #[O ι x] 2).bl.block B (by omega)
 exact (World.cell?_of_block hk).trans h.o1
theorem zt22 {w wr w3 : World} {B : Nat} {off x : Int} {ys Ss : List Int} {vA vB : Value} (h : RW w wr B off ys Ss vA vB) (hgrow : (wr.alloc (χ #[O ι x] 2)).grownBy w3 vB.ownBlock) : ∀ o, w3.frozen? ⟨B, o, none⟩ = false := fun o => by
 have hs := h.sz
 have hk : w3.heap[B]? = wr.heap[B]? := by
  rw [hgrow.block B (by simp; omega) (by intro e; have := (h.ownB.lt B e.symm).1; omega)]
  exact ((Ext.refl wr).alloc #[O ι x] 2).bl.block B (by omega)
 exact (World.frozen?_of_block hk).trans (h.bf o)
def RRel (w : World) (B : Nat) (off : Int) (ys : List Int) (vA i : Value) (W : World) : Prop :=
 ∃ (k : Nat) (vB : Value), i = O ι k ∧ k ≤ ys.length ∧ RW w W B off ys ((rmS ys).take k) vA vB
theorem zy19 {w wr : World} {B : Nat} {off : Int} {ys Ss : List Int} {sa sb : Option Addr} {ca cb nb : Nat} (h : RW w wr B off ys Ss (σ sa ys.length ca) (σ sb nb cb)) (hnb : nb = Ss.length) {c : Int} {L S : List Int} {o : Int} (hr : (c, L, S, o) = (0, ys, Ss, off)) {v0 v1 v2 v3 : Value} :
  VSOw w c L S o (.returned (γ #[O ι 0, σ sa ys.length ca, σ sb nb cb, O ι off])) ((((wr.setCell ⟨w.heap.size + 1, 0, none⟩ v0).setCell ⟨w.heap.size + 1, 1, none⟩ v1).setCell ⟨w.heap.size + 1, 2, none⟩ v2).setCell ⟨w.heap.size + 1, 3, none⟩ v3) := by
 simp only [Prod.mk.injEq] at hr
 obtain ⟨rfl, rfl, rfl, rfl⟩ := hr
 subst hnb
 have hB := h.hB
 exact ⟨sa, sb, ca, cb, rfl, zc2 (zc4 h.gA.1 (by omega) _ _ _ _) (by omega), zc2 (zc4 h.ownB (by omega) _ _ _ _) (by omega), h.gA.2.2, zn17 h.bl⟩
theorem zv19 {w : World} {vS vT vP : Value} {xs ss ys : List Int} (hS : Ints w vS xs) (hT : Ints w vT ss) (hP : Ints w vP ys) (off : Int) (lx : xs.length ≤ 1048576) (ls : ss.length ≤ 1048576) (ly : ys.length ≤ 1048576) {c : Int} {L S : List Int} {o : Int} (hr : rsL xs ss off ys = (c, L, S, o)) :
  Calls Tryz.prog 99 #[γ #[vS, vT, O ι off], vP] w fun e w' => VSOw w c L S o e w' := by
 obtain ⟨i0, hi0, hz0, hz1, hz2⟩ := info_parts zy7
 have Hr := hide hr.symm
 clear hr
 have x0 : Ext w ((w.alloc (χ #[vS, vT, O ι off] 28)).alloc (χ #[O ι 0, σ none 0 0, σ none 0 0, O ι 0] 123)) := ((Ext.refl w).alloc _ _).alloc _ _
 have y0 : Ext (w.alloc (χ #[vS, vT, O ι off] 28)) ((w.alloc (χ #[vS, vT, O ι off] 28)).alloc (χ #[O ι 0, σ none 0 0, σ none 0 0, O ι 0] 123)) := (Ext.refl _).alloc _ _
 have n1 := fun j => zg w #[vS, vT, O ι off] 28 w.heap.size rfl j
 have n2 := fun j => zg (w.alloc (χ #[vS, vT, O ι off] 28)) #[O ι 0, σ none 0 0, σ none 0 0, O ι 0] 123 (w.heap.size + 1) (by simp) j
 have k0 : ((w.alloc (χ #[vS, vT, O ι off] 28)).alloc (χ #[O ι 0, σ none 0 0, σ none 0 0, O ι 0] 123)).cell? ⟨w.heap.size, 0, none⟩ = some vS := y0.box (n1 0)
 have k1 : ((w.alloc (χ #[vS, vT, O ι off] 28)).alloc (χ #[O ι 0, σ none 0 0, σ none 0 0, O ι 0] 123)).cell? ⟨w.heap.size, 1, none⟩ = some vT := y0.box (n1 1)
 have k2 : ((w.alloc (χ #[vS, vT, O ι off] 28)).alloc (χ #[O ι 0, σ none 0 0, σ none 0 0, O ι 0] 123)).cell? ⟨w.heap.size, 2, none⟩ = some (O ι off) := y0.box (n1 2)
 have q0 : ((w.alloc (χ #[vS, vT, O ι off] 28)).alloc (χ #[O ι 0, σ none 0 0, σ none 0 0, O ι 0] 123)).cell? ⟨w.heap.size + 1, 0, none⟩ = some (O ι 0) := n2 0
 have q1 : ((w.alloc (χ #[vS, vT, O ι off] 28)).alloc (χ #[O ι 0, σ none 0 0, σ none 0 0, O ι 0] 123)).cell? ⟨w.heap.size + 1, 1, none⟩ = some (σ none 0 0) := n2 1
 have q2 : ((w.alloc (χ #[vS, vT, O ι off] 28)).alloc (χ #[O ι 0, σ none 0 0, σ none 0 0, O ι 0] 123)).cell? ⟨w.heap.size + 1, 2, none⟩ = some (σ none 0 0) := n2 2
 have q3 : ((w.alloc (χ #[vS, vT, O ι off] 28)).alloc (χ #[O ι 0, σ none 0 0, σ none 0 0, O ι 0] 123)).cell? ⟨w.heap.size + 1, 3, none⟩ = some (O ι 0) := n2 3
 have X0 := hide x0
 have HS := hide (hS.ext x0)
 have HT := hide (hT.ext x0)
 have HP := hide (hP.ext x0)
 have HS0 := hide hS
 have HT0 := hide hT
 have HP0 := hide hP
 obtain ⟨sa, ca, rfl, rS⟩ := hS
 obtain ⟨sb, cb, rfl, rT⟩ := hT
 obtain ⟨sp, cp, rfl, rP⟩ := hP
 have RS0 := hide rS
 have RT0 := hide rT
 have RP0 := hide rP
 clear x0 y0 n1 n2 rS rT rP
 go_enter Tryz.func99, Tryz.ntmps99
 go_wp2_with fail
 refine (zh9 HS.out HT.out off lx ls).mono ?_
 rintro e w1 ⟨rfl, x1⟩
 have l0 := Bel.box x1 k0
 have l1 := Bel.box x1 k1
 have l2 := Bel.box x1 k2
 have r0 := Bel.box x1 q0
 have r1 := Bel.box x1 q1
 have r2 := Bel.box x1 q2
 have r3 := Bel.box x1 q3
 have rf : ∀ o, w1.frozen? ⟨w.heap.size + 1, o, none⟩ = false := fun o => (Below.frozen x1 (p := ⟨w.heap.size + 1, o, none⟩) (zl q0)).trans (X0.out.unfrozen (b := w.heap.size + 1) (by omega) o)
 have B1 := hide (Bel.tr X0.out.bl x1)
 have HS1 := hide (HS.out.below x1)
 have HT1 := hide (HT.out.below x1)
 have HP1 := hide (HP.out.below x1)
 have sz1 : Hid (w.heap.size + 1 < w1.heap.size) := zl r0
 clear x1 k0 k1 k2 q0 q1 q2 q3 X0 HS HT HP
 cases hv : (dcValidV xs ss off)
 ·have hn := hide (Hr.out.trans (show rsL xs ss off ys = (12, [], [], 0) from if_neg (of_decide_eq_false hv)))
  clear hv
  go_wp2
  exact bodyPost_ret (v := γ #[O ι 12, σ none 0 0, σ none 0 0, O ι 0]) (by simp [results, Tryz.results99, go_sem, zx3 r0, zw3 r1, zv3 r2, zu3 r3]) rfl (zp4 hn.out B1.out)
 have gv : ValidV xs ss off := of_decide_eq_true hv
 have hbr : Hid (rsL xs ss off ys = (if Good ys ∧ prod ys = prod xs then (if offsL xs ss off = ups off (offsL xs ss off).length then (0, ys, rmS ys, off) else (13, [], [], 0)) else (6, [], [], 0))) := if_pos gv
 have HGV := hide gv
 have hx4 := gv.1.1
 clear gv
 generalize hvb : (dcValidV xs ss off) = vb at hv
 subst hv
 clear hvb
 go_wp2_with fail
 refine (zj1 HP1.out (by omega)).mono ?_
 rintro e wr ⟨rfl, rfl⟩
 by_cases gg : Good ys
 case neg =>
  have hn := hide (Hr.out.trans (hbr.out.trans (if_neg (fun q => gg q.1))))
  have hc : cntL ys = -1 := if_neg gg
  rw [hc]
  clear hc gg
  go_wp2
  exact bodyPost_ret (v := γ #[O ι 6, σ none 0 0, σ none 0 0, O ι 0]) (by simp [results, Tryz.results99, go_sem, zx3 r0, zw3 r1, zv3 r2, zu3 r3]) rfl (zp4 hn.out B1.out)
 have hc : cntL ys = prod ys := if_pos gg
 have hcx : cntL xs = prod xs := if_pos HGV.out.1
 have HG := hide gg
 have hPY := zh2 ys ys.length gg.1 (Nat.le_refl _) gg.2.1
 rw [List.take_length] at hPY
 have hPY2 : prod ys ≤ 4096 := gg.2.2
 have HPX := hide (zj1 HS1.out (by omega))
 rw [hcx] at HPX
 rw [hc]
 clear hc hcx gg
 have hy4 := HG.out.1
 have hneg : decide (prod ys < 0) = false := decide_eq_false (by omega)
 go_wp2_with fail
 refine HPX.out.mono ?_
 rintro e wr ⟨rfl, rfl⟩
 clear HPX
 by_cases hpe : prod ys = prod xs
 case neg =>
  have hn := hide (Hr.out.trans (hbr.out.trans (if_neg (fun q => hpe q.2))))
  have hpb : (prod ys != prod xs) = true := by simp [hpe]
  generalize prod ys = PY at hpe hpb hPY hPY2 hneg ⊢
  generalize prod xs = PX at hpe hpb ⊢
  go_wp2
  exact bodyPost_ret (v := γ #[O ι 6, σ none 0 0, σ none 0 0, O ι 0]) (by simp [results, Tryz.results99, go_sem, zx3 r0, zw3 r1, zv3 r2, zu3 r3]) rfl (zp4 hn.out B1.out)
 have hb2 := hide (Hr.out.trans (hbr.out.trans (if_pos ⟨HG.out, hpe⟩)))
 rw [← hpe]
 generalize hPZ : prod ys = PY at hPY hPY2 hneg ⊢
 have HPZ := hide hPZ
 clear hpe hPZ
 go_wp2_with fail
 refine (za2 HS1.out HT1.out off HGV.out).mono ?_
 rintro e w2 ⟨sa2, ca2, rfl, hO, x2⟩
 have l0 := Bel.box x2 l0
 have l1 := Bel.box x2 l1
 have l2 := Bel.box x2 l2
 have B2 := hide (Bel.tr B1.out x2)
 have HP2 := hide (HP1.out.below x2)
 have r0' := Bel.box x2 r0
 have r1' := Bel.box x2 r1
 have r2' := Bel.box x2 r2
 have r3' := Bel.box x2 r3
 have rf' : ∀ o, w2.frozen? ⟨w.heap.size + 1, o, none⟩ = false := fun o => (Below.frozen x2 (p := ⟨w.heap.size + 1, o, none⟩) (zl r0)).trans (rf o)
 have sz2 : Hid (w.heap.size + 1 < w2.heap.size) := zl r0'
 have HOL := hide (zs6 HGV.out)
 have HIN := hide (zj3 HGV.out)
 have HUP := hide (zp18 (zm16 HGV.out))
 have HO := hide hO
 clear hO x2 B1 HP1 HS1 HT1 r0 r1 r2 r3 rf sz1
 generalize hOL : offsL xs ss off = OL at HOL HIN HUP HO hb2 ⊢
 clear hOL
 have hOL1 : OL.length ≤ 4096 := HOL.out
 go_wp2_with fail
 go_loopw [7] (fun i W => ∃ k : Nat, i = O ι ((k : Int) + 1) ∧ (k + 1 ≤ OL.length ∨ k = 0) ∧ Hid (GoUp OL (k + 1)) ∧ Ext w2 W) (fun i _ => OL.length - (intOf i).toNat)
 case atStart => exact ⟨0, rfl, Or.inr rfl, fun i hi => absurd hi (by omega), Ext.refl w2⟩
 case round =>
  obtain ⟨k, rfl, hk, hup, hX⟩ := hrel
  have HX := hide hX
  clear hX
  by_cases hlt : k + 1 < OL.length
  ·obtain ⟨g, rfl, _, hrow, _⟩ := zf20 HO.out (by omega)
   have q0 := HX.out.box (hrow (k + 1) hlt)
   have q1 := HX.out.box (hrow k (by omega))
   rw [Nat.zero_add] at q0 q1
   have hk0 : (0 : Int) ≤ (k : Int) := Int.natCast_nonneg _
   have hk2 : (k : Int) < (OL.length : Int) := by omega
   have hk3 : (k : Int) + 1 < (OL.length : Int) := by omega
   have hk4 : (0 : Int) ≤ (k : Int) + 1 := by omega
   have hb := HIN.out (OL.getD k 0) (by rw [List.getD_eq_getElem?_getD, List.getElem?_eq_getElem (by omega)]; exact List.getElem_mem _)
   have hst : Hid (OL.getD (k + 1) 0 = OL.getD k 0 + 1 → GoUp OL (k + 1 + 1)) := fun e => hup.out.step e
   have hno : Hid (OL.getD (k + 1) 0 ≠ OL.getD k 0 + 1 → ¬ GoUp OL OL.length) := fun e g => e (g k hlt)
   clear hrow
   generalize OL.getD (k + 1) 0 = X at q0 hst hno
   generalize OL.getD k 0 = Y at q1 hst hno hb
   have hk5 : (k : Int) + 1 - 1 = (k : Int) := by omega
   by_cases hXY : X = Y + 1
   ·subst hXY
    have H2 := hide (hst.out rfl)
    clear hst hno
    go_wp2_with fail
    go_region
    all_goals go_wp2
    all_goals go_roundw
    all_goals first | exact ⟨k + 1, by go_num, Or.inl (by omega), H2, HX.out.drew⟩ | (simp [intOf]; omega)
   ·have hne : (X != Y + 1) = true := by simp [hXY]
    have Hno := hide (hno.out hXY)
    have hn := hide (hb2.out.trans (if_neg (fun e => Hno.out (HUP.out.1 e))))
    have t0 := HX.out.box r0'
    have t1 := HX.out.box r1'
    have t2 := HX.out.box r2'
    have t3 := HX.out.box r3'
    have tf : ∀ o, wr.frozen? ⟨w.heap.size + 1, o, none⟩ = false := fun o => (HX.out.fz _).trans (rf' o)
    have B3 := hide (Bel.tr B2.out HX.out.drew.bl)
    clear hst hno hXY
    go_wp2_with fail
    go_region
    all_goals go_wp2
    all_goals exact bodyPost_ret (v := γ #[O ι 13, σ none 0 0, σ none 0 0, O ι 0]) (by simp [results, Tryz.results99, go_sem, zx3 t0, zw3 t1, zv3 t2, zu3 t3]) rfl (zp4 hn.out B3.out)
  ·have hn := hide (hb2.out.trans (if_pos (HUP.out.2 (fun i hi => hup.out i (by omega)))))
   have hlt' : ¬ (k : Int) + 1 < (OL.length : Int) := by omega
   have l0 := HX.out.box l0
   have l1 := HX.out.box l1
   have l2 := HX.out.box l2
   have t0 := HX.out.box r0'
   have t1 := HX.out.box r1'
   have t2 := HX.out.box r2'
   have t3 := HX.out.box r3'
   have tf : ∀ o, wr.frozen? ⟨w.heap.size + 1, o, none⟩ = false := fun o => (HX.out.fz _).trans (rf' o)
   have B3 := hide (Bel.tr B2.out HX.out.bl)
   have HP3 := hide (HP2.out.ext HX.out)
   have sz3 : Hid (w.heap.size + 1 < wr.heap.size) := zl t0
   clear HX HP2 B2 r0' r1' r2' r3' rf' sz2 hup hk HIN HUP HO
   have Z27 : Hid (Ext wr (wr.alloc (χ #[σ none 0 0, σ none 0 0, O ι 0] 28))) := (Ext.refl wr).alloc _ _
   have N0 : Hid ((wr.alloc (χ #[σ none 0 0, σ none 0 0, O ι 0] 28)).drew.cell? ⟨wr.heap.size, 0, none⟩ = some (σ none 0 0)) := zg wr _ 28 wr.heap.size rfl 0
   have N1 : Hid ((wr.alloc (χ #[σ none 0 0, σ none 0 0, O ι 0] 28)).drew.cell? ⟨wr.heap.size, 1, none⟩ = some (σ none 0 0)) := zg wr _ 28 wr.heap.size rfl 1
   have N2 : Hid ((wr.alloc (χ #[σ none 0 0, σ none 0 0, O ι 0] 28)).drew.cell? ⟨wr.heap.size, 2, none⟩ = some (O ι 0)) := zg wr _ 28 wr.heap.size rfl 2
   have HP4 := hide (HP3.out.ext (Ext.refl wr).drew)
   have HP5 := hide (HP3.out.ext Z27.out.drew)
   have SA : Hid ((fun w' => w'.cell? ⟨w.heap.size, 2, none⟩ = some (O ι off)) wr.drew) := l2
   have SA2 : Hid ((fun w' => w'.cell? ⟨w.heap.size, 2, none⟩ = some (O ι off)) (wr.alloc (χ #[σ none 0 0, σ none 0 0, O ι 0] 28)).drew) := Z27.out.box l2
   go_wp2_with fail
   refine (fun (hK : Hid (∀ (B : Nat) (sg : Option Addr) (cg : Nat) (W : World), RW w W B off ys [] (σ sg ys.length cg) (σ none 0 0) → (?G : Nat → Option Addr → Nat → World → Prop) B sg cg W)) => ?main) ?side
   case main =>
    go_region_held3 (fun w' => w'.cell? ⟨w.heap.size, 2, none⟩ = some (O ι off)) (first | with_reducible exact SA.out | with_reducible exact SA2.out | with_reducible exact SB'.out | with_reducible exact SB2.out | with_reducible exact SC'.out | with_reducible exact SD'.out | with_reducible exact SE'.out | fail) (first | (go_at_call 80; refine (zh6 HP4.out hy4).mono ?_; rintro e w3 ⟨sg, cg, rfl, hO3, x3⟩; have SB' : Hid ((fun w' => w'.cell? ⟨w.heap.size, 2, none⟩ = some (O ι off)) w3) := Bel.box x3 SA.out; have SC' : Hid ((fun w' => w'.cell? ⟨w.heap.size, 2, none⟩ = some (O ι off)) (w3.alloc (χ #[σ none 0 0, σ none 0 0, O ι 0] 28))) := Ext.box ((Ext.refl w3).alloc _ _) SB'.out; have SD' : Hid ((fun w' => w'.cell? ⟨w.heap.size, 2, none⟩ = some (O ι off)) (w3.alloc (χ #[σ sg ys.length cg, σ none 0 0, O ι off] 28))) := Ext.box ((Ext.refl w3).alloc _ _) SB'.out; have HRW := hide (RW.late (off := off) (cg := cg) B3.out sz3.out t0 t1 t2 t3 tf hO3 x3); clear hO3 x3) | (go_at_call 80; refine (zh6 HP5.out hy4).mono ?_; rintro e w3 ⟨sg, cg, rfl, hO3, x3⟩; have SB2 : Hid ((fun w' => w'.cell? ⟨w.heap.size, 2, none⟩ = some (O ι off)) w3) := Bel.box x3 SA2.out; have e0 := Bel.box x3 N0.out; have e1 := Bel.box x3 N1.out; have e2 := Bel.box x3 N2.out; have ef : ∀ o, w3.frozen? ⟨wr.heap.size, o, none⟩ = false := fun o => (Below.frozen x3 (p := ⟨wr.heap.size, o, none⟩) (zl N0.out)).trans (Z27.out.drew.unfrozen (Nat.le_refl _) o); have SE' : Hid ((fun w' => w'.cell? ⟨w.heap.size, 2, none⟩ = some (O ι off)) (((w3.setCell ⟨wr.heap.size, 0, none⟩ (σ sg ys.length cg)).setCell ⟨wr.heap.size, 1, none⟩ (σ none 0 0)).setCell ⟨wr.heap.size, 2, none⟩ (O ι off))) := Mut.box ((((Mut.refl wr.heap.size w3).setCell _ _).setCell _ _).setCell _ _) (by have := sz3.out; omega) SB2.out; have HRW := hide (RW.early (off := off) (cg := cg) B3.out sz3.out t0 t1 t2 t3 tf hO3 x3 e0 e1 e2 ef); clear hO3 x3) | fail)
    ·generalize w3.alloc (χ #[σ sg ys.length cg, σ none 0 0, O ι off] 28) = W at HRW ⊢
     generalize w3.heap.size = B at HRW ⊢
     exact hK.out B sg cg W HRW.out
    ·generalize ((w3.setCell ⟨wr.heap.size, 0, none⟩ (σ sg ys.length cg)).setCell ⟨wr.heap.size, 1, none⟩ (σ none 0 0)).setCell ⟨wr.heap.size, 2, none⟩ (O ι off) = W at HRW ⊢
     generalize wr.heap.size = B at HRW ⊢
     exact hK.out B sg cg W HRW.out
   case side =>
    intro B sg cg W hRW
    have HRW := hide hRW
    clear hRW l0 l1 l2 t0 t1 t2 t3 tf B3 HP3 sz3 HOL
    go_wp2_with fail
    go_loopw [9] (fun i W => RRel w B off ys (σ sg ys.length cg) i W) (fun i _ => ys.length - (intOf i).toNat)
    case atStart => exact ⟨0, _, rfl, by omega, HRW.out⟩
    case round =>
     obtain ⟨q, vB, rfl, hq, hW⟩ := hrel
     have HW := hide hW
     clear hW
     by_cases hqt : q < ys.length
     ·rcases RP0.out with h0 | ⟨bp, op, rfl, hrp⟩
      ·rw [h0] at hqt; simp at hqt
      have hq1 : (q : Int) < (ys.length : Int) := by omega
      have HRP : Hid (∀ j, j < ys.length → wr.cell? ⟨bp, op + j, none⟩ = some (O ι (ys.getD j 0))) := fun j hj => Bel.box HW.out.bl (hrp j hj)
      clear hrp
      go_wp2_with fail
      go_loopw [10, 11] (fun m i W => ∃ t : Nat, i = O ι ((q : Int) + 1 + t) ∧ m = O ι (prod ((ys.drop (q + 1)).take t)) ∧ q + 1 + t ≤ ys.length ∧ W = wr) (fun m i _ => ys.length - (intOf i).toNat)
      case atStart => exact ⟨0, by simp, rfl, by omega, rfl⟩
      case round =>
       obtain ⟨t, rfl, rfl, ht, rfl⟩ := hrel
       have hdl : (ys.drop (q + 1)).length = ys.length - (q + 1) := List.length_drop
       have hb0 := zi17 hy4 HG.out.2.1 (q + 1) t (by omega)
       by_cases htt : q + 1 + t < ys.length
       ·have q0 := HRP.out (q + 1 + t) htt
        have hp := za3 (ys.drop (q + 1)) t (by omega)
        rw [zd11] at hp
        have hb1 := zi17 hy4 HG.out.2.1 (q + 1) (t + 1) (by omega)
        obtain ⟨J, hJ⟩ : ∃ J : Nat, q + 1 + t = J := ⟨_, rfl⟩
        have hJi : (q : Int) + 1 + (t : Int) = (J : Int) := by omega
        rw [hJ] at q0 hp htt
        have hJ0 : (0 : Int) ≤ (J : Int) := Int.natCast_nonneg _
        have hJ1 : (J : Int) < (ys.length : Int) := by omega
        generalize ys.getD J 0 = x at q0 hp
        generalize hP1 : prod ((ys.drop (q + 1)).take (t + 1)) = P1 at hp hb1
        have HP1 := hide hP1
        clear hP1
        generalize prod ((ys.drop (q + 1)).take t) = P0 at hp hb0 ⊢
        have hw1 : wrap64 (P0 * x) = P1 := by rw [← hp]; unfold wrap64; omega
        clear hp hdl
        have HJ := hide hJ
        clear hJ
        go_wp2
        go_roundw
        ·exact ⟨t + 1, by first | (congr 1; push_cast; omega) | (congr 1; omega), by first | (rw [HP1.out]; done) | (rw [HP1.out, hw1]), by have := HJ.out; omega, by trivial⟩
        ·simp [intOf]; omega
       ·have htl : q + 1 + t = ys.length := by omega
        have htk : (ys.drop (q + 1)).take t = ys.drop (q + 1) := List.take_of_length_le (by omega)
        rw [htk] at hb0 ⊢
        have htj : ¬ (q : Int) + 1 + (t : Int) < (ys.length : Int) := by omega
        have hV := zk13 ys q
        rw [if_pos hqt, HPZ.out] at hV
        have hlS : ((rmS ys).take q).length = q := by rw [List.length_take, zt5]; omega
        have hT1 := ze1 (rmS ys) q (by rw [zt5]; exact hqt)
        generalize hLS : (rmS ys).take q = LS at HW hlS hT1
        have HLS := hide hLS
        clear hLS htk htl hdl
        obtain ⟨s2, c2, rfl⟩ := zg2 HW.out.ownB
        have o1 := HW.out.o1
        have bf := HW.out.bf
        have hM63 : LS.length + 1 ≤ maxLen := by unfold maxLen; omega
        have hM8 : (LS.length + 1) * 8 ≤ 140737488355328 := by omega
        have HlS := hide hlS
        clear hlS
        generalize prod (ys.drop (q + 1)) = P at hb0 hV ⊢
        by_cases hz : PY = 0
        ·have hzb : (PY == 0) = true := by simp [hz]
         rw [if_pos hz] at hV
         rw [hV] at hT1
         have HT1 := hide hT1
         clear hV hT1 hz
         go_wp2_with (at_builtin; (refine wpList_append_own_at _ rfl _ _ 26 rfl (B + 1) 2 i0 (O ι 0) 1 8 Tryz.underlying26 hi0 hz0 hz1 hz2 rfl (by decide) _ _ _ rfl (HW.out.ownB.alloc _) ⟨wr.heap.size, 0, none⟩ 1 1 [O ι 0] rfl rfl (zq _ _ _) (zt1 _) hM63 hM8 (HW.out.szP _) ?_); intro v5 w5 hown5 hgrow5 hnil5 hat5; obtain ⟨s5, c5, rfl⟩ := zg2 hown5; have HSt := hide (HW.out.step 0 hown5 hgrow5 hat5); have c1 := zs22 HW.out hgrow5; have cf := zt22 HW.out hgrow5; clear hown5 hgrow5 hnil5 hat5)
         go_roundw
         ·exact ⟨q + 1, _, by go_num, by omega, by rw [HT1.out]; exact HSt.out⟩
         ·simp [intOf]; omega
        ·have hzb : (PY == 0) = false := by simp [hz]
         rw [if_neg hz] at hV
         rw [hV] at hT1
         have HT1 := hide hT1
         clear hV hT1 hz
         go_wp2_with (at_builtin; (refine wpList_append_own_at _ rfl _ _ 26 rfl (B + 1) 2 i0 (O ι 0) 1 8 Tryz.underlying26 hi0 hz0 hz1 hz2 rfl (by decide) _ _ _ rfl (HW.out.ownB.alloc _) ⟨wr.heap.size, 0, none⟩ 1 1 [O ι P] rfl rfl (zq _ _ _) (zt1 _) hM63 hM8 (HW.out.szP _) ?_); intro v5 w5 hown5 hgrow5 hnil5 hat5; obtain ⟨s5, c5, rfl⟩ := zg2 hown5; have HSt := hide (HW.out.step P hown5 hgrow5 hat5); have c1 := zs22 HW.out hgrow5; have cf := zt22 HW.out hgrow5; clear hown5 hgrow5 hnil5 hat5)
         go_roundw
         ·exact ⟨q + 1, _, by go_num, by omega, by rw [HT1.out]; exact HSt.out⟩
         ·simp [intOf]; omega
     ·have hqq : q = ys.length := by omega
      subst hqq
      have hW1 := HW.out
      rw [List.take_of_length_le (by rw [zt5]; omega)] at hW1
      obtain ⟨s2, c2, rfl⟩ := zg2 hW1.ownB
      have HW1 := hide hW1
      clear hW1 HW
      generalize hrb : rmS ys = RB at HW1 hn
      have o0 := HW1.out.o0
      have o1 := HW1.out.o1
      have o2 := HW1.out.o2
      have r0 := HW1.out.r0
      have r1 := HW1.out.r1
      have r2 := HW1.out.r2
      have r3 := HW1.out.r3
      have rf := HW1.out.rf
      have hqn : ¬ (ys.length : Int) < (ys.length : Int) := by omega
      go_wp2
      exact bodyPost_ret (v := γ #[O ι 0, σ sg ys.length cg, σ s2 RB.length c2, O ι off]) (by simp [results, Tryz.results99, go_sem, zx3 r0, zw3 r1, zv3 r2, zu3 r3]) rfl (zy19 HW1.out rfl hn.out)
end
section
open Go.ChangeShapes Go.RowKit
abbrev PN (ps : List Int) (n k : Nat) : Prop := (∀ j, j < k → 0 ≤ ps.getD j 0 ∧ ps.getD j 0 < n) ∧ (∀ j, j < k → ∀ i, i < j → ps.getD i 0 ≠ ps.getD j 0)
abbrev PermOk (ps : List Int) (n : Nat) : Prop := ps.length = n ∧ PN ps n ps.length
def dcPermOk (ps : List Int) (n : Nat) : Bool := decide (PermOk ps n)
theorem dcPermOk_t {ps : List Int} {n : Nat} (h : PermOk ps n) : dcPermOk ps n = true := decide_eq_true h
theorem dcPermOk_f {ps : List Int} {n : Nat} (h : ¬ PermOk ps n) : dcPermOk ps n = false := decide_eq_false h
theorem PN.zero (ps : List Int) (n : Nat) : PN ps n 0 := ⟨fun j hj => absurd hj (Nat.not_lt_zero _), fun j h2 => absurd h2 (Nat.not_lt_zero _)⟩
theorem PN.step {ps : List Int} {n k : Nat} (h : PN ps n k) (h1 : 0 ≤ ps.getD k 0 ∧ ps.getD k 0 < n) (h2 : ∀ i, i < k → ps.getD i 0 ≠ ps.getD k 0) : PN ps n (k + 1) :=
 ⟨fun j hj => by
  by_cases e : j = k
  ·subst e; exact h1
  ·exact h.1 j (by omega), fun j hj i hij => by
  by_cases e : j = k
  ·subst e; exact h2 i hij
  ·exact h.2 j (by omega) i hij⟩
def trx (xs ps : List Int) : List Int := ps.map fun p => xs.getD p.toNat 0
theorem zt3 (xs ps : List Int) : (trx xs ps).length = ps.length := by simp [trx]
theorem ze13 (xs ps : List Int) (j : Nat) : (trx xs ps).getD j 0 = if j < ps.length then xs.getD (ps.getD j 0).toNat 0 else 0 := by
 unfold trx
 by_cases h : j < ps.length
 ·rw [if_pos h]; simp [List.getD_eq_getElem?_getD, h]
 ·rw [if_neg h]; simp [List.getD_eq_getElem?_getD, h]
def trL (xs ss : List Int) (off : Int) (ps : List Int) : Int × List Int × List Int × Int :=
 if ValidV xs ss off then (if PermOk ps xs.length then (0, trx xs ps, trx ss ps, off) else (5, [], [], 0)) else (12, [], [], 0)
end
end Go.Proofs.YtjbbodfdpbcnhaaGreat
