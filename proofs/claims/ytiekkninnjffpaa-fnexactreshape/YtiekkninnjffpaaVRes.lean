import Derived.Test.YtiekkninnjffpaaViewsL
import Derived.Test.YtiekkninnjffpaaLawBS
namespace Go.Proofs.Ytiekkninnjffpaa
open Go.ChangeShapes Go.RowKit
set_option linter.unusedSimpArgs false
set_option linter.unusedVariables false

theorem MIn.wide {l h lo hi : Nat} {w w' : World} (m : MIn l h w w') (h1 : lo ≤ l) (h2 : h ≤ hi) : MIn lo hi w w' :=
  ⟨⟨m.bl.os, m.bl.tape, m.bl.output, m.bl.size, fun j hj => m.bl.block j (by omega)⟩, fun k o v hk hc => m.box k o v (by omega) hc, m.fz⟩
theorem MIn.tr {lo hi : Nat} {a b c : World} (x : MIn lo hi a b) (y : MIn lo hi b c) : MIn lo hi a c :=
  ⟨x.bl.trans y.bl, fun k o v hk hc => y.box k o v hk (x.box k o v hk hc), fun p => (y.fz p).trans (x.fz p)⟩

set_option maxRecDepth 100000 in
set_option maxHeartbeats 2000000 in
theorem eqVR_true {w : World} {c off : Int} {v u v' u' : Value} {L S : List Int} (h : Ints w v L) (g : Ints w u S) (h' : Ints w v' L) (g' : Ints w u' S) (lx : L.length ≤ 1048576) (ls : S.length ≤ 1048576) :
    Calls Try.prog 36 #[.agg #[.int .i64 c, v, u, .int .i64 off], .agg #[.int .i64 c, v', u', .int .i64 off]] w fun e w' => e = .returned (.bool true) ∧ Ext w w' := by
  have x0 : Ext w ((w.alloc (.cells #[.int .i64 c, v, u, .int .i64 off] 43)).alloc (.cells #[.int .i64 c, v', u', .int .i64 off] 43)) := ((Ext.refl w).alloc _ _).alloc _ _
  have H := hide (h.ext x0)
  have G := hide (g.ext x0)
  have H' := hide (h'.ext x0)
  have G' := hide (g'.ext x0)
  have X0 := hide x0
  clear x0
  obtain ⟨sa, ca, rfl, _⟩ := h
  obtain ⟨sb, cb, rfl, _⟩ := g
  obtain ⟨sc, cc, rfl, _⟩ := h'
  obtain ⟨sd, cd, rfl, _⟩ := g'
  go_enter Try.func36, Try.ntmps36
  go_wp2_with fail
  refine (eqView_true off H.out G.out H'.out G'.out lx ls).mono ?_
  rintro e w1 ⟨rfl, x1⟩
  have X1 := hide (X0.out.trans x1)
  clear x1
  go_wp2
  go_ret
  exact ⟨rfl, X1.out⟩

set_option maxRecDepth 100000 in
set_option maxHeartbeats 2000000 in
theorem markView_any {w : World} {lo hi g h : Nat} {off : Int} {v u : Value} {L S : List Int} (hL : IntsB w g (g + 1) v L) (hS : IntsB w h (h + 1) u S) (fL : FZ w v L) (fS : FZ w u S)
    (hne : g ≠ h) (hg : lo ≤ g ∧ g < hi) (hh : lo ≤ h ∧ h < hi) (hgs : g < w.heap.size) (hhs : h < w.heap.size) (k : Int) (hk : 0 ≤ k ∧ k ≤ 1000000000) (lx : L.length ≤ 1048576) (ls : S.length ≤ 1048576) :
    Calls Try.prog 32 #[.agg #[v, u, .int .i64 off], .int .i64 k] w fun e w' => e = .returned (.int .i64 (k + L.length + S.length)) ∧ IntsB w' g (g + 1) v (counted L.length k) ∧ IntsB w' h (h + 1) u (counted S.length (k + L.length)) ∧ MIn lo hi w w' := by
  have x0 : Ext w (w.alloc (.cells #[v, u, .int .i64 off] 27)) := (Ext.refl w).alloc _ _
  have n1 := fun j => new_cell w #[v, u, .int .i64 off] 27 w.heap.size rfl j
  have a1 : (w.alloc (.cells #[v, u, .int .i64 off] 27)).cell? ⟨w.heap.size, 1, none⟩ = some u := n1 1
  have HL := hide (hL.keep x0.bl)
  have HS := hide (hS.keep x0.bl)
  have FL := hide (fL.keep x0.bl)
  have FxS := hide (fS.keep x0.bl)
  have X0 := hide (x0.mIn (lo := lo) (hi := hi) (by omega))
  have hz : Hid ((w.alloc (.cells #[v, u, .int .i64 off] 27)).heap.size = w.heap.size + 1) := by show (w.alloc (.cells #[v, u, .int .i64 off] 27)).heap.size = _; simp
  clear x0 n1
  obtain ⟨sa, ca, rfl, _⟩ := hL
  obtain ⟨sb, cb, rfl, _⟩ := hS
  clear fL fS
  go_enter Try.func32, Try.ntmps32
  go_wp2_with fail
  refine (markB2 HL.out FL.out (by have := hz.out; omega) k (by omega) (by omega)).mono ?_
  rintro e w1 ⟨rfl, h1, m1⟩
  have HL1 := hide h1
  have HS1 := hide (HS.out.mIn m1 (by omega))
  have FS1 := hide (FxS.out.mIn m1)
  have b1 := m1.box w.heap.size 1 _ (by omega) a1
  have X1 := hide (X0.out.tr (m1.wide hg.1 (by omega)))
  have hz1 : Hid (h ≤ w1.heap.size) := by have := Below.size m1.bl; have := hz.out; show h ≤ w1.heap.size; omega
  clear h1 m1 a1 HL HS FL FxS X0
  go_wp2_with fail
  refine (markB2 HS1.out FS1.out hz1.out (k + L.length) (by omega) (by omega)).mono ?_
  rintro e w2 ⟨rfl, h2, m2⟩
  have HS2 := hide h2
  have HL2 := hide (HL1.out.mIn m2 (by omega))
  have X2 := hide (X1.out.tr (m2.wide hh.1 (by omega)))
  clear h2 m2 HL1 HS1 FS1 X1
  go_wp2
  go_ret
  exact ⟨rfl, HL2.out, HS2.out, X2.out⟩

set_option maxRecDepth 100000 in
set_option maxHeartbeats 2000000 in
theorem markVR_any {w : World} {lo hi g h : Nat} {c off : Int} {v u : Value} {L S : List Int} (hL : IntsB w g (g + 1) v L) (hS : IntsB w h (h + 1) u S) (fL : FZ w v L) (fS : FZ w u S)
    (hne : g ≠ h) (hg : lo ≤ g ∧ g < hi) (hh : lo ≤ h ∧ h < hi) (hgs : g < w.heap.size) (hhs : h < w.heap.size) (lx : L.length ≤ 1048576) (ls : S.length ≤ 1048576) :
    Calls Try.prog 37 #[.agg #[.int .i64 c, v, u, .int .i64 off], .int .i64 1] w fun e w' => e = .returned (.int .i64 (1 + L.length + S.length)) ∧ IntsB w' g (g + 1) v (counted L.length 1) ∧ IntsB w' h (h + 1) u (counted S.length (1 + L.length)) ∧ MIn lo hi w w' := by
  have x0 : Ext w (w.alloc (.cells #[.int .i64 c, v, u, .int .i64 off] 43)) := (Ext.refl w).alloc _ _
  have HL := hide (hL.keep x0.bl)
  have HS := hide (hS.keep x0.bl)
  have FL := hide (fL.keep x0.bl)
  have FxS := hide (fS.keep x0.bl)
  have X0 := hide (x0.mIn (lo := lo) (hi := hi) (by omega))
  have hz : Hid ((w.alloc (.cells #[.int .i64 c, v, u, .int .i64 off] 43)).heap.size = w.heap.size + 1) := by show (w.alloc (.cells #[.int .i64 c, v, u, .int .i64 off] 43)).heap.size = _; simp
  clear x0
  obtain ⟨sa, ca, rfl, _⟩ := hL
  obtain ⟨sb, cb, rfl, _⟩ := hS
  clear fL fS
  go_enter Try.func37, Try.ntmps37
  go_wp2_with fail
  refine (markView_any (lo := lo) (hi := hi) HL.out HS.out FL.out FxS.out hne hg hh (by have := hz.out; omega) (by have := hz.out; omega) 1 (by omega) lx ls).mono ?_
  rintro e w1 ⟨rfl, h1, h2, m1⟩
  have H1 := hide h1
  have H2 := hide h2
  have X1 := hide (X0.out.tr m1)
  clear h1 h2 m1
  go_wp2
  go_ret
  exact ⟨rfl, H1.out, H2.out, X1.out⟩

set_option maxRecDepth 100000 in
set_option maxHeartbeats 2000000 in
theorem heldView_any {w : World} {off : Int} {v u : Value} {n m : Nat} (h : Ints w v (counted n 1)) (g : Ints w u (counted m (1 + n))) (ln : n ≤ 1048576) (lm : m ≤ 1048576) :
    Calls Try.prog 65 #[.agg #[v, u, .int .i64 off], .int .i64 1] w fun e w' => e = .returned (.int .i64 (1 + n + m)) ∧ Ext w w' := by
  have x0 : Ext w (w.alloc (.cells #[v, u, .int .i64 off] 27)) := (Ext.refl w).alloc _ _
  have n1 := fun j => new_cell w #[v, u, .int .i64 off] 27 w.heap.size rfl j
  have a1 : (w.alloc (.cells #[v, u, .int .i64 off] 27)).cell? ⟨w.heap.size, 1, none⟩ = some u := n1 1
  have X0 := hide x0
  have H := hide (h.ext x0)
  have G := hide (g.ext x0)
  obtain ⟨sa, ca, rfl, _⟩ := h
  obtain ⟨sb, cb, rfl, _⟩ := g
  clear x0 n1
  go_enter Try.func65, Try.ntmps65
  go_wp2_with fail
  refine (heldInts_any 1 H.out (by omega) (by omega)).mono ?_
  rintro e w1 ⟨rfl, rfl⟩
  have p1 : ¬ ((1 : Int) + (n : Int) < 0) := by omega
  have p2 : ¬ ((1 : Int) + (n : Int) + (m : Int) < 0) := by omega
  go_wp2_with fail
  refine (heldInts_any (1 + n) G.out (by omega) (by omega)).mono ?_
  rintro e w1 ⟨rfl, rfl⟩
  go_wp2
  go_ret
  exact ⟨rfl, X0.out⟩

set_option maxRecDepth 100000 in
set_option maxHeartbeats 2000000 in
theorem heldVR_any {w : World} {c off : Int} {v u : Value} {n m : Nat} (h : Ints w v (counted n 1)) (g : Ints w u (counted m (1 + n))) (ln : n ≤ 1048576) (lm : m ≤ 1048576) :
    Calls Try.prog 38 #[.agg #[.int .i64 c, v, u, .int .i64 off], .int .i64 1] w fun e w' => e = .returned (.int .i64 (1 + n + m)) ∧ Ext w w' := by
  have x0 : Ext w (w.alloc (.cells #[.int .i64 c, v, u, .int .i64 off] 43)) := (Ext.refl w).alloc _ _
  have X0 := hide x0
  have H := hide (h.ext x0)
  have G := hide (g.ext x0)
  obtain ⟨sa, ca, rfl, _⟩ := h
  obtain ⟨sb, cb, rfl, _⟩ := g
  clear x0
  go_enter Try.func38, Try.ntmps38
  go_wp2_with fail
  refine (heldView_any H.out G.out ln lm).mono ?_
  rintro e w1 ⟨rfl, x1⟩
  have X1 := hide (X0.out.trans x1)
  clear x1
  have p2 : ¬ ((1 : Int) + (n : Int) + (m : Int) < 0) := by omega
  go_wp2
  go_ret
  exact ⟨rfl, X1.out⟩
end Go.Proofs.Ytiekkninnjffpaa
