import Derived.Test.YtiekkninnjffpaaJoin3
import Derived.Test.YtiekkninnjffpaaSpecBS
namespace Go.Proofs.Ytiekkninnjffpaa
open Go.ChangeShapes Go.RowKit
set_option linter.unusedSimpArgs false
set_option linter.unusedVariables false

def ListOk (w : World) (L : List Int) (e : Ending) (w' : World) : Prop :=
  ∃ (sa : Option Addr) (cap : Nat), e = .returned (.slice sa L.length cap) ∧ OwnI w' w.heap.size sa L ∧ Below w.heap.size w w'

theorem own_of {w w3 : World} {base n : Nat} {v : Value} {L : List Int} (hb : w.heap.size ≤ base) (h : w3.ownsRow base 2 1 v n (L.map (Value.int .i64))) : ∃ sa cap, v = .slice sa L.length cap ∧ OwnI w3 w.heap.size sa L := by
  have hl : n = L.length := by have := h.1; simp at this; omega
  rcases h.2 with ⟨h1, h2⟩ | ⟨g, cap, cur, h1, hg, _⟩
  · have : L = [] := List.eq_nil_of_length_eq_zero (by omega)
    subst this
    exact ⟨none, 0, h1, Or.inl rfl⟩
  · subst h1
    obtain ⟨hr, _⟩ := row_of_own h
    exact ⟨_, cap, by rw [hl], Or.inr ⟨g, rfl, by omega, hr, fun o => h.frozenAt o⟩⟩

set_option maxRecDepth 100000 in
set_option maxHeartbeats 2000000 in
theorem list_any (w : World) (L : List Int) (h4 : L.length ≤ 4) :
    Calls Try.prog 57 #[.agg (shp L)] w fun e w' => ListOk w L e w' := by
  obtain ⟨i0, hi0, hz0, hz1, hz2⟩ := info_parts info2
  have h4' : (L.length : Int) ≤ 4 := by omega
  have hcells : ∀ j u, (L.map (Value.int .i64))[j]? = some u → ((w.alloc (.cells (shp L) 62)).alloc (.cells #[] 2)).cell? ((⟨w.heap.size, 1, none⟩ : Addr).add j) = some u := fun j u hu => by
    have hj : j < L.length := by
      have := (List.getElem?_eq_some_iff.1 hu).1
      simpa using this
    have e : L[j]? = some (L.getD j 0) := by simp [List.getD_eq_getElem?_getD, hj]
    rw [List.getElem?_map, e] at hu
    simp at hu
    subst hu
    have n1 := fun j => new_cell w (shp L) 62 w.heap.size rfl j
    have e2 : Ext (w.alloc (.cells (shp L) 62)) ((w.alloc (.cells (shp L) 62)).alloc (.cells #[] 2)) := (Ext.refl _).alloc _ _
    rw [Addr.add_lit]
    refine e2.box ((n1 (1 + j)).trans ?_)
    obtain rfl | rfl | rfl | rfl : j = 0 ∨ j = 1 ∨ j = 2 ∨ j = 3 := by omega
    all_goals simp [shp, List.getD_eq_getElem?_getD, hj]
  have Hc := hide hcells
  clear hcells
  have hown : ((w.alloc (.cells (shp L) 62)).alloc (.cells #[] 2)).ownsRow (w.heap.size + 1) 2 1 (.slice (some ⟨w.heap.size + 1, 0, none⟩) 0 0) 0 [] := by
    have := World.ownsRow_made (base := w.heap.size + 1) (e := 2) (size := 1) (w.alloc (.cells (shp L) 62)) #[] 0 (by simp) (by unfold maxLen; omega) rfl
    simpa using this
  have Hown := hide hown
  clear hown
  unfold shp at Hc Hown ⊢
  go_enter Try.func57, Try.ntmps57
  go_wp2_with (at_builtin; refine wpList_append_own _ rfl _ _ 22 rfl (w.heap.size + 1) 2 i0 (.int .i64 0) 1 8 Try.underlying22 hi0 hz0 hz1 hz2 rfl (by decide) _ _ _ rfl Hown.out ⟨w.heap.size, 1, none⟩ L.length 4 (L.map (Value.int .i64)) rfl (by simp) Hc.out (fun x hx => by simp at hx; obtain ⟨y, _, rfl⟩ := hx; rfl) (by unfold maxLen; omega) (by omega) (by simp) ?_; intro v3 w3 hown3 hgrow3 hnil3)
  go_ret
  have hB : Below w.heap.size w w3 := (((Below.refl w.heap.size w).alloc (Nat.le_refl _) _).alloc (by simp) _).grown hgrow3 (by simp; omega) (fun k hk => by simp [Act.eval, Value.ownBlock] at hk; omega)
  obtain ⟨sa, cap, hv, ho⟩ := own_of (w := w) (Nat.le_succ _) (L := L) (by simpa using hown3)
  subst hv
  exact ⟨sa, cap, rfl, ho, hB⟩

set_option maxRecDepth 100000 in
set_option maxHeartbeats 4000000 in
theorem iBS_any {w : World} {v u : Value} {xs ys : List Int} (h : Ints w v xs) (g : Ints w u ys) (lx : xs.length ≤ 1048576) (ly : ys.length ≤ 1048576) :
    Calls Try.prog 20 #[v, u] w fun e w' => BSOk w xs ys e w' := by
  have x0 : Ext w (w.alloc (.cells #[.int .i64 0, .slice none 0 0] 32)) := (Ext.refl w).alloc _ _
  have X0 := hide x0
  have H := hide (h.ext x0)
  have G := hide (g.ext x0)
  obtain ⟨sa, cap, rfl, _⟩ := h
  obtain ⟨ta, dap, rfl, _⟩ := g
  clear x0
  go_enter Try.func20, Try.ntmps20
  go_wp2_with fail
  refine (fixShape_any H.out (by omega)).mono ?_
  rintro e w1 ⟨n, a0, a1, a2, a3, rfl, hX, x1⟩
  have HX := hide hX
  clear hX
  have r10 := x1.box (b := w.heap.size) (o := 0) (v := .int .i64 0) (by simp)
  have r11 := x1.box (b := w.heap.size) (o := 1) (v := .slice none 0 0) (by simp)
  have y1 : Ext w1 (w1.alloc (.cells #[.int .i64 n, .int .i64 a0, .int .i64 a1, .int .i64 a2, .int .i64 a3] 62)) := (Ext.refl w1).alloc _ _
  have G1 := hide ((G.out.ext x1).ext y1)
  have Y1 := hide ((X0.out.trans x1).trans y1)
  have n1 := fun j => new_cell w1 #[.int .i64 n, .int .i64 a0, .int .i64 a1, .int .i64 a2, .int .i64 a3] 62 w1.heap.size rfl j
  have s0 := n1 0
  have s1 := n1 1
  have s2 := n1 2
  have s3 := n1 3
  have s4 := n1 4
  have r20 := y1.box r10
  have r21 := y1.box r11
  clear n1 y1 x1
  go_wp2_with fail
  refine (fixShape_any G1.out (by omega)).mono ?_
  rintro e w2 ⟨m, b0, b1, b2, b3, rfl, hY, x2⟩
  have HY := hide hY
  clear hY
  have y2 : Ext w2 (w2.alloc (.cells #[.int .i64 m, .int .i64 b0, .int .i64 b1, .int .i64 b2, .int .i64 b3] 62)) := (Ext.refl w2).alloc _ _
  have Y2 := hide ((Y1.out.trans x2).trans y2)
  have n2 := fun j => new_cell w2 #[.int .i64 m, .int .i64 b0, .int .i64 b1, .int .i64 b2, .int .i64 b3] 62 w2.heap.size rfl j
  have u0 := n2 0
  have u1 := n2 1
  have u2 := n2 2
  have u3 := n2 3
  have u4 := n2 4
  have t0 := y2.box (x2.box s0)
  have t1 := y2.box (x2.box s1)
  have t2 := y2.box (x2.box s2)
  have t3 := y2.box (x2.box s3)
  have t4 := y2.box (x2.box s4)
  have q0 := y2.box (x2.box r20)
  have q1 := y2.box (x2.box r21)
  clear n2 y2 x2 s0 s1 s2 s3 s4 r20 r21 r10 r11
  have qf := fun o => Y2.out.unfrozen (b := w.heap.size) (Nat.le_refl _) o
  have hbad : Hid (¬ (Good xs ∧ Good ys ∧ Joins xs ys (max xs.length ys.length)) → ∀ W, Ext w W → BSOk w xs ys (.returned (.agg #[.int .i64 6, .slice none 0 0])) ((W.setCell ⟨w.heap.size, 0, none⟩ (.int .i64 6)).setCell ⟨w.heap.size, 1, none⟩ (.slice none 0 0))) := fun hn W hW => bad_ok hn ((hW.bl.setCell (Nat.le_refl _) _).setCell (Nat.le_refl _) _)
  cases hgx : goodB xs
  · have hn := hide (hbad.out (fun q => absurd q.1 (of_decide_eq_false hgx)) _ Y2.out)
    go_wp2
    exact bodyPost_ret (v := .agg #[.int .i64 6, .slice none 0 0]) (by simp [results, Try.results20, go_sem, q0, q1]) rfl hn.out
  cases hgy : goodB ys
  · have hn := hide (hbad.out (fun q => absurd q.2.1 (of_decide_eq_false hgy)) _ Y2.out)
    go_wp2
    exact bodyPost_ret (v := .agg #[.int .i64 6, .slice none 0 0]) (by simp [results, Try.results20, go_sem, q0, q1]) rfl hn.out
  have gx : Good xs := of_decide_eq_true hgx
  have gy : Good ys := of_decide_eq_true hgy
  obtain ⟨en, ea0, ea1, ea2, ea3⟩ := HX.out gx
  obtain ⟨em, eb0, eb1, eb2, eb3⟩ := HY.out gy
  have hJ : Hid (∀ W, Calls Try.prog 56 #[.agg #[.int .i64 n, .int .i64 a0, .int .i64 a1, .int .i64 a2, .int .i64 a3], .agg #[.int .i64 m, .int .i64 b0, .int .i64 b1, .int .i64 b2, .int .i64 b3]] W fun e w' => JoinOk W xs ys (max xs.length ys.length) e w') := fun W => by
    have hj := joinShapes_any W xs ys gx.1 gy.1 gx.2.1 gy.2.1 _ rfl
    unfold shp at hj
    rw [← en, ← ea0, ← ea1, ← ea2, ← ea3, ← em, ← eb0, ← eb1, ← eb2, ← eb3] at hj
    exact hj
  have hd4 : max xs.length ys.length ≤ 4 := by have := gx.1; have := gy.1; omega
  have hyes : Hid (Joins xs ys (max xs.length ys.length) → bsL xs ys = (0, jn xs ys (max xs.length ys.length))) := fun q => if_pos ⟨gx, gy, q⟩
  clear en ea0 ea1 ea2 ea3 em eb0 eb1 eb2 eb3 HX HY gx gy
  generalize hd : max xs.length ys.length = d at hJ hd4 hyes hbad
  have Hd := hide hd
  clear hd
  go_wp2_with fail
  refine (hJ.out _).mono ?_
  rintro e w3 ⟨z, c0, c1, c2, c3, rfl, hZ, x3⟩
  have y3 : Ext w3 (w3.alloc (.cells #[.int .i64 z, .int .i64 c0, .int .i64 c1, .int .i64 c2, .int .i64 c3] 62)) := (Ext.refl w3).alloc _ _
  have Y3 := hide ((Y2.out.trans x3).trans y3)
  have n3 := fun j => new_cell w3 #[.int .i64 z, .int .i64 c0, .int .i64 c1, .int .i64 c2, .int .i64 c3] 62 w3.heap.size rfl j
  have v0 := n3 0
  have v1 := n3 1
  have v2 := n3 2
  have v3 := n3 3
  have v4 := n3 4
  have k0 := y3.box (x3.box q0)
  have k1 := y3.box (x3.box q1)
  have kf := fun o => Y3.out.unfrozen (b := w.heap.size) (Nat.le_refl _) o
  clear n3 y3 x3 t0 t1 t2 t3 t4 u0 u1 u2 u3 u4 q0 q1 qf hJ
  cases hj : (dcJoins xs ys d)
  · have hn := hide (hbad.out (fun q => absurd q.2.2 (of_decide_eq_false hj)) _ Y3.out)
    clear hZ
    go_wp2
    exact bodyPost_ret (v := .agg #[.int .i64 6, .slice none 0 0]) (by simp [results, Try.results20, go_sem, k0, k1]) rfl hn.out
  have gj : Joins xs ys d := of_decide_eq_true hj
  obtain ⟨ez, ec0, ec1, ec2, ec3⟩ := hZ gj
  have hL : Hid (∀ W, Calls Try.prog 57 #[.agg #[.int .i64 z, .int .i64 c0, .int .i64 c1, .int .i64 c2, .int .i64 c3]] W fun e w' => ListOk W (jn xs ys d) e w') := fun W => by
    have hl := list_any W (jn xs ys d) (by rw [jn_len]; exact hd4)
    unfold shp at hl
    rw [← ez, ← ec0, ← ec1, ← ec2, ← ec3] at hl
    exact hl
  have HY2 := hide (hyes.out gj)
  clear ez ec0 ec1 ec2 ec3 hyes gj hZ hbad hgx hgy
  go_wp2_with fail
  refine (hL.out _).mono ?_
  rintro e w4 ⟨sb, cp, rfl, hO, hB4⟩
  have hlt := cell_lt k0
  have m0 := (hB4.cell (p := ⟨w.heap.size, 0, none⟩) hlt).trans k0
  have m1 := (hB4.cell (p := ⟨w.heap.size, 1, none⟩) hlt).trans k1
  have mf : ∀ o, w4.frozen? ⟨w.heap.size, o, none⟩ = false := fun o => (hB4.frozen (p := ⟨w.heap.size, o, none⟩) hlt).trans (kf o)
  have hBw : Hid (Below w.heap.size w w4) := Y3.out.bl.trans (hB4.mono Y3.out.bl.size)
  have HO := hide hO
  have Hlt := hide hlt
  clear hO hB4 hlt k0 k1 kf v0 v1 v2 v3 v4
  generalize hjl : (jn xs ys d).length = jl
  have Hjl := hide hjl
  clear hjl
  go_wp2
  refine bodyPost_ret (v := .agg #[.int .i64 0, .slice sb jl cp]) (by simp [results, Try.results20, go_sem, m0, m1]) rfl ⟨sb, cp, ?_, ?_, (hBw.out.setCell (Nat.le_refl _) _).setCell (Nat.le_refl _) _⟩
  · rw [HY2.out, Hjl.out]
  · rw [HY2.out]
    rcases HO.out with h | ⟨g, h1, h2, h3, h4⟩
    · exact Or.inl h
    · have hm : Mut w.heap.size w4 ((w4.setCell ⟨w.heap.size, 0, none⟩ (.int .i64 0)).setCell ⟨w.heap.size, 1, none⟩ (.slice sb jl cp)) := ((Mut.refl _ _).setCell _ _).setCell _ _
      have hg : w.heap.size < g := Nat.lt_of_lt_of_le Hlt.out h2
      exact Or.inr ⟨g, h1, by omega, h3.mut hm (by omega), fun o => (hm.fz _).trans (h4 o)⟩
end Go.Proofs.Ytiekkninnjffpaa
