import Derived.Test.YtiekkninnjffpaaM4
import Derived.Deep.AppendLies
import Derived.Maps.AppendAt
import Derived.OneCell
import Derived.Below
namespace Go.Proofs.Ytiekkninnjffpaa
open Go.ChangeShapes Go.RowKit
set_option linter.unusedSimpArgs false
set_option linter.unusedVariables false

theorem MIn.wide {l h lo hi : Nat} {w w' : World} (m : MIn l h w w') (h1 : lo ≤ l) (h2 : h ≤ hi) : MIn lo hi w w' :=
  ⟨⟨m.bl.os, m.bl.tape, m.bl.output, m.bl.size, fun j hj => m.bl.block j (by omega)⟩, fun k o v hk hc => m.box k o v (by omega) hc, m.fz⟩
theorem MIn.tr {lo hi : Nat} {a b c : World} (x : MIn lo hi a b) (y : MIn lo hi b c) : MIn lo hi a c :=
  ⟨x.bl.trans y.bl, fun k o v hk hc => y.box k o v hk (x.box k o v hk hc), fun p => (y.fz p).trans (x.fz p)⟩

set_option maxRecDepth 100000 in
set_option maxHeartbeats 2000000 in
theorem eqVR_true {w : World} {c off : Int} {v u v' u' : Value} {L S : List Int} (h : Ints w v L) (g : Ints w u S) (h' : Ints w v' L) (g' : Ints w u' S) (lx : L.length ≤ 1048576) (ls : S.length ≤ 1048576) :
    Calls Try.prog 36 #[.agg #[.int .i64 c, v, u, .int .i64 off], .agg #[.int .i64 c, v', u', .int .i64 off]] w fun e w' => e = .returned (.bool true) ∧ Ext w w' := by
  have x0 : Ext w ((w.alloc (.cells #[.int .i64 c, v, u, .int .i64 off] 43)).alloc (.cells #[.int .i64 c, v', u', .int .i64 off] 43)) := ((Ext.refl w).alloc _ _).alloc _ _
  have H := hide (h.ext x0)
  have G := hide (g.ext x0)
  have H' := hide (h'.ext x0)
  have G' := hide (g'.ext x0)
  have X0 := hide x0
  clear x0
  obtain ⟨sa, ca, rfl, _⟩ := h
  obtain ⟨sb, cb, rfl, _⟩ := g
  obtain ⟨sc, cc, rfl, _⟩ := h'
  obtain ⟨sd, cd, rfl, _⟩ := g'
  go_enter Try.func36, Try.ntmps36
  go_wp2_with fail
  refine (eqView_true off H.out G.out H'.out G'.out lx ls).mono ?_
  rintro e w1 ⟨rfl, x1⟩
  have X1 := hide (X0.out.trans x1)
  clear x1
  go_wp2
  go_ret
  exact ⟨rfl, X1.out⟩

set_option maxRecDepth 100000 in
set_option maxHeartbeats 2000000 in
theorem markView_any {w : World} {lo hi g h : Nat} {off : Int} {v u : Value} {L S : List Int} (hL : IntsB w g (g + 1) v L) (hS : IntsB w h (h + 1) u S) (fL : FZ w v L) (fS : FZ w u S)
    (hne : g ≠ h) (hg : lo ≤ g ∧ g < hi) (hh : lo ≤ h ∧ h < hi) (hgs : g < w.heap.size) (hhs : h < w.heap.size) (k : Int) (hk : 0 ≤ k ∧ k ≤ 1000000000) (lx : L.length ≤ 1048576) (ls : S.length ≤ 1048576) :
    Calls Try.prog 32 #[.agg #[v, u, .int .i64 off], .int .i64 k] w fun e w' => e = .returned (.int .i64 (k + L.length + S.length)) ∧ IntsB w' g (g + 1) v (counted L.length k) ∧ IntsB w' h (h + 1) u (counted S.length (k + L.length)) ∧ MIn lo hi w w' := by
  have x0 : Ext w (w.alloc (.cells #[v, u, .int .i64 off] 27)) := (Ext.refl w).alloc _ _
  have n1 := fun j => new_cell w #[v, u, .int .i64 off] 27 w.heap.size rfl j
  have a1 : (w.alloc (.cells #[v, u, .int .i64 off] 27)).cell? ⟨w.heap.size, 1, none⟩ = some u := n1 1
  have HL := hide (hL.keep x0.bl)
  have HS := hide (hS.keep x0.bl)
  have FL := hide (fL.keep x0.bl)
  have FxS := hide (fS.keep x0.bl)
  have X0 := hide (x0.mIn (lo := lo) (hi := hi) (by omega))
  have hz : Hid ((w.alloc (.cells #[v, u, .int .i64 off] 27)).heap.size = w.heap.size + 1) := by show (w.alloc (.cells #[v, u, .int .i64 off] 27)).heap.size = _; simp
  clear x0 n1
  obtain ⟨sa, ca, rfl, _⟩ := hL
  obtain ⟨sb, cb, rfl, _⟩ := hS
  clear fL fS
  go_enter Try.func32, Try.ntmps32
  go_wp2_with fail
  refine (markB2 HL.out FL.out (by have := hz.out; omega) k (by omega) (by omega)).mono ?_
  rintro e w1 ⟨rfl, h1, m1⟩
  have HL1 := hide h1
  have HS1 := hide (HS.out.mIn m1 (by omega))
  have FS1 := hide (FxS.out.mIn m1)
  have b1 := m1.box w.heap.size 1 _ (by omega) a1
  have X1 := hide (X0.out.tr (m1.wide hg.1 (by omega)))
  have hz1 : Hid (h ≤ w1.heap.size) := by have := Below.size m1.bl; have := hz.out; show h ≤ w1.heap.size; omega
  clear h1 m1 a1 HL HS FL FxS X0
  go_wp2_with fail
  refine (markB2 HS1.out FS1.out hz1.out (k + L.length) (by omega) (by omega)).mono ?_
  rintro e w2 ⟨rfl, h2, m2⟩
  have HS2 := hide h2
  have HL2 := hide (HL1.out.mIn m2 (by omega))
  have X2 := hide (X1.out.tr (m2.wide hh.1 (by omega)))
  clear h2 m2 HL1 HS1 FS1 X1
  go_wp2
  go_ret
  exact ⟨rfl, HL2.out, HS2.out, X2.out⟩

set_option maxRecDepth 100000 in
set_option maxHeartbeats 2000000 in
theorem markVR_any {w : World} {lo hi g h : Nat} {c off : Int} {v u : Value} {L S : List Int} (hL : IntsB w g (g + 1) v L) (hS : IntsB w h (h + 1) u S) (fL : FZ w v L) (fS : FZ w u S)
    (hne : g ≠ h) (hg : lo ≤ g ∧ g < hi) (hh : lo ≤ h ∧ h < hi) (hgs : g < w.heap.size) (hhs : h < w.heap.size) (lx : L.length ≤ 1048576) (ls : S.length ≤ 1048576) :
    Calls Try.prog 37 #[.agg #[.int .i64 c, v, u, .int .i64 off], .int .i64 1] w fun e w' => e = .returned (.int .i64 (1 + L.length + S.length)) ∧ IntsB w' g (g + 1) v (counted L.length 1) ∧ IntsB w' h (h + 1) u (counted S.length (1 + L.length)) ∧ MIn lo hi w w' := by
  have x0 : Ext w (w.alloc (.cells #[.int .i64 c, v, u, .int .i64 off] 43)) := (Ext.refl w).alloc _ _
  have HL := hide (hL.keep x0.bl)
  have HS := hide (hS.keep x0.bl)
  have FL := hide (fL.keep x0.bl)
  have FxS := hide (fS.keep x0.bl)
  have X0 := hide (x0.mIn (lo := lo) (hi := hi) (by omega))
  have hz : Hid ((w.alloc (.cells #[.int .i64 c, v, u, .int .i64 off] 43)).heap.size = w.heap.size + 1) := by show (w.alloc (.cells #[.int .i64 c, v, u, .int .i64 off] 43)).heap.size = _; simp
  clear x0
  obtain ⟨sa, ca, rfl, _⟩ := hL
  obtain ⟨sb, cb, rfl, _⟩ := hS
  clear fL fS
  go_enter Try.func37, Try.ntmps37
  go_wp2_with fail
  refine (markView_any (lo := lo) (hi := hi) HL.out HS.out FL.out FxS.out hne hg hh (by have := hz.out; omega) (by have := hz.out; omega) 1 (by omega) lx ls).mono ?_
  rintro e w1 ⟨rfl, h1, h2, m1⟩
  have H1 := hide h1
  have H2 := hide h2
  have X1 := hide (X0.out.tr m1)
  clear h1 h2 m1
  go_wp2
  go_ret
  exact ⟨rfl, H1.out, H2.out, X1.out⟩

set_option maxRecDepth 100000 in
set_option maxHeartbeats 2000000 in
theorem heldView_any {w : World} {off : Int} {v u : Value} {n m : Nat} (h : Ints w v (counted n 1)) (g : Ints w u (counted m (1 + n))) (ln : n ≤ 1048576) (lm : m ≤ 1048576) :
    Calls Try.prog 65 #[.agg #[v, u, .int .i64 off], .int .i64 1] w fun e w' => e = .returned (.int .i64 (1 + n + m)) ∧ Ext w w' := by
  have x0 : Ext w (w.alloc (.cells #[v, u, .int .i64 off] 27)) := (Ext.refl w).alloc _ _
  have n1 := fun j => new_cell w #[v, u, .int .i64 off] 27 w.heap.size rfl j
  have a1 : (w.alloc (.cells #[v, u, .int .i64 off] 27)).cell? ⟨w.heap.size, 1, none⟩ = some u := n1 1
  have X0 := hide x0
  have H := hide (h.ext x0)
  have G := hide (g.ext x0)
  obtain ⟨sa, ca, rfl, _⟩ := h
  obtain ⟨sb, cb, rfl, _⟩ := g
  clear x0 n1
  go_enter Try.func65, Try.ntmps65
  go_wp2_with fail
  refine (heldInts_any 1 H.out (by omega) (by omega)).mono ?_
  rintro e w1 ⟨rfl, rfl⟩
  have p1 : ¬ ((1 : Int) + (n : Int) < 0) := by omega
  have p2 : ¬ ((1 : Int) + (n : Int) + (m : Int) < 0) := by omega
  go_wp2_with fail
  refine (heldInts_any (1 + n) G.out (by omega) (by omega)).mono ?_
  rintro e w1 ⟨rfl, rfl⟩
  go_wp2
  go_ret
  exact ⟨rfl, X0.out⟩

set_option maxRecDepth 100000 in
set_option maxHeartbeats 2000000 in
theorem heldVR_any {w : World} {c off : Int} {v u : Value} {n m : Nat} (h : Ints w v (counted n 1)) (g : Ints w u (counted m (1 + n))) (ln : n ≤ 1048576) (lm : m ≤ 1048576) :
    Calls Try.prog 38 #[.agg #[.int .i64 c, v, u, .int .i64 off], .int .i64 1] w fun e w' => e = .returned (.int .i64 (1 + n + m)) ∧ Ext w w' := by
  have x0 : Ext w (w.alloc (.cells #[.int .i64 c, v, u, .int .i64 off] 43)) := (Ext.refl w).alloc _ _
  have X0 := hide x0
  have H := hide (h.ext x0)
  have G := hide (g.ext x0)
  obtain ⟨sa, ca, rfl, _⟩ := h
  obtain ⟨sb, cb, rfl, _⟩ := g
  clear x0
  go_enter Try.func38, Try.ntmps38
  go_wp2_with fail
  refine (heldView_any H.out G.out ln lm).mono ?_
  rintro e w1 ⟨rfl, x1⟩
  have X1 := hide (X0.out.trans x1)
  clear x1
  have p2 : ¬ ((1 : Int) + (n : Int) + (m : Int) < 0) := by omega
  go_wp2
  go_ret
  exact ⟨rfl, X1.out⟩
end Go.Proofs.Ytiekkninnjffpaa
namespace Go.Proofs.Ytiekkninnjffpaa
open Go.ChangeShapes Go.RowKit
set_option linter.unusedSimpArgs false
set_option linter.unusedVariables false

/-- append at a step of a region that draws, whether or not something is appended. -/
theorem step_append_at {P : Program} (w : World) {ops : Array Oper} {o : Oper} {a : Act} {K : Act → World → Prop} {Q : Exit → Act → World → Prop} {E : Prop} (hgd : o.guard = none) (s x : Operand) (t : TypeId)
    (ho : o.op = .call { callee := .builtin .append, args := #[s, x], argTypes := #[t, t] })
    (base : Nat) (e : TypeId) (i : TypeInfo) (z : Value) (size bytes : Nat) (ht : P.underlying t = some (.slice e)) (hi : P.info? e = some i) (hz : i.zero = some z)
    (hsize : i.size = size) (hby : i.bytes = bytes) (hzs : z.cells.size = size) (hsz : 0 < size)
    (v : Value) (n : Nat) (xs : List Value) (hs : a.eval s = v) (hown : w.ownsRow base e size v n xs)
    (ad : Addr) (m c : Nat) (news : List Value) (hx : a.eval x = .slice (some ad) m c) (hl : news.length = m * size) (hnews : ∀ j u, news[j]? = some u → w.cell? (ad.add j) = some u) (h1 : ∀ u ∈ news, u.oneCell' = true)
    (h63 : n + m ≤ maxLen) (hbytes : (n + m) * bytes ≤ 140737488355328) (hbase : base ≤ w.heap.size)
    (h : ∀ v' w', w'.ownsRow base e size v' (n + m) (xs ++ news) → w.grownBy w' v.ownBlock → (v'.ownBlock = v.ownBlock ∨ v'.ownBlock = some w.heap.size) → K (a.put o.dst v') w') :
    if Region.wanted o (yielded ops a.tmps) = true then Oper.wp P o a w K Q else E := by
  have hw : Region.wanted o (yielded ops a.tmps) = true := by simp [Region.wanted, hgd]
  rw [if_pos hw]
  obtain ⟨v', w', hr, h2, h3, _, h5⟩ := run_append_own_at (P := P) w base t o.type e i z size bytes ht hi hz hsize hby hzs hsz v n xs hown ad m c news hl hnews h1 h63 hbytes hbase
  unfold Oper.wp execOp
  simp only [ho, resolve, invoke, builtin, Sem.run_bind, Sem.run_pure, Result.andThen_ok, List.map_toArray, List.map_cons, List.map_nil, hs, hx, hr]
  exact h v' w' h2 h3 h5

theorem own_below {w w' : World} {base e size n B : Nat} {v : Value} {xs : List Value} (h : w.ownsRow base e size v n xs) (x : Below B w w') (hb : ∀ g, v.ownBlock = some g → g < B) : w'.ownsRow base e size v n xs := by
  refine ⟨h.1, ?_⟩
  rcases h.2 with h | ⟨g, cap, cur, rfl, h1, h2, h3⟩
  · exact Or.inl h
  · exact Or.inr ⟨g, cap, cur, rfl, h1, by rw [x.block g (hb g rfl)]; exact h2, h3⟩

/-- Two lists of the call's own, each in a block of its own. -/
def Two (lo : Nat) (W : World) (v u : Value) (xs ss : List Int) : Prop :=
  ∃ g h, lo ≤ g ∧ lo ≤ h ∧ g ≠ h ∧ g < W.heap.size ∧ h < W.heap.size ∧ IntsB W g (g + 1) v xs ∧ IntsB W h (h + 1) u ss ∧ FZ W v xs ∧ FZ W u ss

theorem Two.mut {lo R : Nat} {W W' : World} {v u : Value} {xs ss : List Int} (h : Two lo W v u xs ss) (m : Mut R W W') (hR : R < lo) : Two lo W' v u xs ss := by
  obtain ⟨g, k, h1, h2, h3, h4, h5, h6, h7, h8, h9⟩ := h
  have hs : W.heap.size ≤ W'.heap.size := m.size
  have fz : ∀ {v : Value} {L : List Int}, FZ W v L → FZ W' v L := by
    intro v L h
    rcases h with h | ⟨b, off, n, cap, h1, h2, h3⟩
    · exact Or.inl h
    · exact Or.inr ⟨b, off, n, cap, h1, by omega, fun o => (m.fz _).trans (h3 o)⟩
  exact ⟨g, k, h1, h2, h3, by omega, by omega, h6.mut m (by omega), h7.mut m (by omega), fz h8, fz h9⟩

theorem Two.nil {lo : Nat} {W : World} {sa sb : Option Addr} {ca cb : Nat} (h : lo + 2 ≤ W.heap.size) : Two lo W (.slice sa 0 ca) (.slice sb 0 cb) [] [] :=
  ⟨lo, lo + 1, Nat.le_refl _, by omega, by omega, by omega, by omega, ⟨sa, ca, rfl, Or.inl rfl⟩, ⟨sb, cb, rfl, Or.inl rfl⟩, Or.inl rfl, Or.inl rfl⟩

/-- Behind the append. -/
theorem two_of {C D : World} {lo b3 base n cap cb : Nat} {sa sb : Option Addr} {xs ss : List Int} (hx : xs ≠ []) (hs : ss ≠ []) (hO : OwnI C lo sa xs) (hg : ∀ g, sa = some ⟨g, 0, none⟩ → g ≠ b3) (hb : lo ≤ b3) (hbC : b3 < C.heap.size)
    (hown : D.ownsRow base 2 1 (.slice sb ss.length cb) n (ss.map (Value.int .i64))) (hgrow : C.grownBy D (some b3)) (hat : (Value.slice sb ss.length cb).ownBlock = some b3 ∨ (Value.slice sb ss.length cb).ownBlock = some C.heap.size) :
    Two lo D (.slice sa xs.length cap) (.slice sb ss.length cb) xs ss := by
  rcases hO with h | ⟨g, rfl, h1, h2, h3⟩
  · exact absurd h hx
  have hgl : g < C.heap.size := cell_lt (h2 0 (List.length_pos_iff.2 hx))
  have hgb := hg g rfl
  have hl : n = ss.length := by have := hown.1; simp at this; omega
  have hb1 : D.heap[g]? = C.heap[g]? := hgrow.block g hgl (by intro e; exact hgb (by simpa using e))
  have hsz := hgrow.size
  rcases hown.2 with ⟨e1, e2⟩ | ⟨h, cap2, cur, e1, e2, e3, _⟩
  · exact absurd (List.eq_nil_of_length_eq_zero (by omega)) hs
  have hh : sb = some ⟨h, 0, none⟩ := by simp at e1; exact e1.1
  subst hh
  have hhd : h < D.heap.size := by
    rcases Nat.lt_or_ge h D.heap.size with q | q
    · exact q
    · rw [Array.getElem?_eq_none q] at e3; cases e3
  have hne : g ≠ h := by
    rcases hat with q | q
    · have : h = b3 := by simpa [Value.ownBlock] using q
      omega
    · have : h = C.heap.size := by simpa [Value.ownBlock] using q
      omega
  have hlh : lo ≤ h := by
    rcases hat with q | q
    · have : h = b3 := by simpa [Value.ownBlock] using q
      omega
    · have : h = C.heap.size := by simpa [Value.ownBlock] using q
      omega
  subst hl
  obtain ⟨hrow, _⟩ := row_of_own hown
  have hfr := fun o => hown.frozenAt o
  refine ⟨g, h, h1, hlh, hne, by omega, hhd, ⟨_, cap, rfl, Or.inr ⟨g, 0, rfl, Nat.le_refl _, by omega, fun j hj => ?_⟩⟩, ⟨_, cb, rfl, Or.inr ⟨h, 0, rfl, Nat.le_refl _, by omega, hrow⟩⟩, Or.inr ⟨g, 0, _, cap, rfl, by omega, fun o => ?_⟩, Or.inr ⟨h, 0, _, cb, rfl, hhd, hfr⟩⟩
  · exact (World.cell?_of_block hb1).trans (h2 j hj)
  · exact (World.frozen?_of_block hb1).trans (h3 o)

/-- The world of 'view': f at block w.heap.size, the answer behind it. -/
structure FR (w W : World) (n a0 a1 a2 a3 b0 b1 b2 b3 off : Int) : Prop where
  c0 : W.cell? ⟨w.heap.size, 0, none⟩ = some (.int .i64 n)
  c1 : W.cell? ⟨w.heap.size, 1, none⟩ = some (.int .i64 a0)
  c2 : W.cell? ⟨w.heap.size, 2, none⟩ = some (.int .i64 a1)
  c3 : W.cell? ⟨w.heap.size, 3, none⟩ = some (.int .i64 a2)
  c4 : W.cell? ⟨w.heap.size, 4, none⟩ = some (.int .i64 a3)
  c5 : W.cell? ⟨w.heap.size, 5, none⟩ = some (.int .i64 b0)
  c6 : W.cell? ⟨w.heap.size, 6, none⟩ = some (.int .i64 b1)
  c7 : W.cell? ⟨w.heap.size, 7, none⟩ = some (.int .i64 b2)
  c8 : W.cell? ⟨w.heap.size, 8, none⟩ = some (.int .i64 b3)
  c9 : W.cell? ⟨w.heap.size, 9, none⟩ = some (.int .i64 off)
  r0 : W.cell? ⟨w.heap.size + 1, 0, none⟩ = some (.slice none 0 0)
  r1 : W.cell? ⟨w.heap.size + 1, 1, none⟩ = some (.slice none 0 0)
  r2 : W.cell? ⟨w.heap.size + 1, 2, none⟩ = some (.int .i64 0)
  rf : ∀ o, W.frozen? ⟨w.heap.size + 1, o, none⟩ = false
  sz : w.heap.size + 2 ≤ W.heap.size
  bl : Bel w W

/-- Cells and freezing of what lies below are kept. -/
theorem FR.by {w W W' : World} {n a0 a1 a2 a3 b0 b1 b2 b3 off : Int} (h : FR w W n a0 a1 a2 a3 b0 b1 b2 b3 off) (hk : ∀ k, k < w.heap.size + 2 → W'.heap[k]? = W.heap[k]?) (hs : W.heap.size ≤ W'.heap.size) (hb : Bel w W') : FR w W' n a0 a1 a2 a3 b0 b1 b2 b3 off := by
  have e : ∀ {b o v}, b < w.heap.size + 2 → W.cell? ⟨b, o, none⟩ = some v → W'.cell? ⟨b, o, none⟩ = some v := fun hb hc => (World.cell?_of_block (hk _ hb)).trans hc
  exact ⟨e (by omega) h.c0, e (by omega) h.c1, e (by omega) h.c2, e (by omega) h.c3, e (by omega) h.c4, e (by omega) h.c5, e (by omega) h.c6, e (by omega) h.c7, e (by omega) h.c8, e (by omega) h.c9, e (by omega) h.r0, e (by omega) h.r1, e (by omega) h.r2, fun o => (World.frozen?_of_block (hk _ (by show w.heap.size + 1 < _; omega))).trans (h.rf o), Nat.le_trans h.sz hs, hb⟩
theorem FR.keep {w W W' : World} {n a0 a1 a2 a3 b0 b1 b2 b3 off : Int} (h : FR w W n a0 a1 a2 a3 b0 b1 b2 b3 off) (x : Bel W W') : FR w W' n a0 a1 a2 a3 b0 b1 b2 b3 off :=
  h.by (fun k hk => x.block k (by have := h.sz; omega)) x.size (Bel.tr h.bl x)
theorem FR.alloc {w W : World} {n a0 a1 a2 a3 b0 b1 b2 b3 off : Int} (h : FR w W n a0 a1 a2 a3 b0 b1 b2 b3 off) (cs : Array Value) (t : TypeId) : FR w (W.alloc (.cells cs t)) n a0 a1 a2 a3 b0 b1 b2 b3 off :=
  h.keep ((Ext.refl W).alloc cs t).bl
theorem FR.grown {w W W' : World} {b : Nat} {n a0 a1 a2 a3 b0 b1 b2 b3 off : Int} (h : FR w W n a0 a1 a2 a3 b0 b1 b2 b3 off) (x : W.grownBy W' (some b)) (hb : w.heap.size + 2 ≤ b) : FR w W' n a0 a1 a2 a3 b0 b1 b2 b3 off :=
  h.by (fun k hk => x.block k (by have := h.sz; omega) (by intro e; have : k = b := by simpa using e
                                                           omega)) x.size (Below.grown h.bl x (Below.size h.bl) (fun j hj => by have : b = j := by simpa using hj
                                                                                                                                omega))

/-- The strides to be appended. -/
theorem FR.news {w W : World} {n a0 a1 a2 a3 b0 b1 b2 b3 off : Int} (h : FR w W n a0 a1 a2 a3 b0 b1 b2 b3 off) {ss : List Int} (hl : ss.length ≤ 4) (e0 : ss.getD 0 0 = b0) (e1 : ss.getD 1 0 = b1) (e2 : ss.getD 2 0 = b2) (e3 : ss.getD 3 0 = b3) :
    ∀ j u, (ss.map (Value.int .i64))[j]? = some u → W.cell? ((⟨w.heap.size, 5, none⟩ : Addr).add j) = some u := fun j u hu => by
  have hj : j < ss.length := by
    have := (List.getElem?_eq_some_iff.1 hu).1
    simpa using this
  have e : ss[j]? = some (ss.getD j 0) := by simp [List.getD_eq_getElem?_getD, hj]
  rw [List.getElem?_map, e] at hu
  simp only [Option.map_some, Option.some.injEq] at hu
  subst hu
  rw [Addr.add_lit]
  obtain rfl | rfl | rfl | rfl : j = 0 ∨ j = 1 ∨ j = 2 ∨ j = 3 := by omega
  · rw [e0]; exact h.c5
  · rw [e1]; exact h.c6
  · rw [e2]; exact h.c7
  · rw [e3]; exact h.c8

def VOk (w : World) (xs ss : List Int) (off : Int) (e : Ending) (w' : World) : Prop :=
  ∃ (sa sb : Option Addr) (ca cb : Nat), e = .returned (.agg #[.slice sa xs.length ca, .slice sb ss.length cb, .int .i64 off]) ∧ Two w.heap.size w' (.slice sa xs.length ca) (.slice sb ss.length cb) xs ss ∧ Bel w w'

theorem view_done {w W : World} {n a0 a1 a2 a3 b0 b1 b2 b3 off : Int} (h : FR w W n a0 a1 a2 a3 b0 b1 b2 b3 off) {xs ss : List Int} {sa sb : Option Addr} {ca cb : Nat}
    (ht : (xs = [] ∧ ss = []) ∨ Two (w.heap.size + 2) W (.slice sa xs.length ca) (.slice sb ss.length cb) xs ss) :
    VOk w xs ss off (.returned (.agg #[.slice sa xs.length ca, .slice sb ss.length cb, .int .i64 off])) (((W.setCell ⟨w.heap.size + 1, 0, none⟩ (.slice sa xs.length ca)).setCell ⟨w.heap.size + 1, 1, none⟩ (.slice sb ss.length cb)).setCell ⟨w.heap.size + 1, 2, none⟩ (.int .i64 off)) := by
  have m : Mut (w.heap.size + 1) W (((W.setCell ⟨w.heap.size + 1, 0, none⟩ (.slice sa xs.length ca)).setCell ⟨w.heap.size + 1, 1, none⟩ (.slice sb ss.length cb)).setCell ⟨w.heap.size + 1, 2, none⟩ (.int .i64 off)) := (((Mut.refl _ _).setCell _ _).setCell _ _).setCell _ _
  refine ⟨sa, sb, ca, cb, rfl, ?_, ((h.bl.setCell (by show w.heap.size ≤ w.heap.size + 1; omega) _).setCell (by show w.heap.size ≤ w.heap.size + 1; omega) _).setCell (by show w.heap.size ≤ w.heap.size + 1; omega) _⟩
  rcases ht with ⟨rfl, rfl⟩ | ht
  · exact Two.nil (Nat.le_trans h.sz m.size)
  · obtain ⟨g, k, h1, h2, h3⟩ := ht.mut m (by omega)
    exact ⟨g, k, by omega, by omega, h3⟩
end Go.Proofs.Ytiekkninnjffpaa
namespace Go.Proofs.Ytiekkninnjffpaa
open Go.ChangeShapes Go.RowKit
set_option linter.unusedSimpArgs false
set_option linter.unusedVariables false

theorem own_made {w W : World} (h : w.heap.size + 2 ≤ W.heap.size) : (W.alloc (.cells #[] 2)).ownsRow (w.heap.size + 2) 2 1 (.slice (some ⟨W.heap.size, 0, none⟩) 0 0) 0 [] :=
  World.ownsRow_made (base := w.heap.size + 2) (e := 2) (size := 1) W #[] 0 h (by unfold maxLen; omega) rfl
theorem OwnI.low {W : World} {lo l : Nat} {sa : Option Addr} {L : List Int} (h : OwnI W l sa L) (hl : lo ≤ l) : OwnI W lo sa L := by
  rcases h with h | ⟨g, h1, h2, h3⟩
  · exact Or.inl h
  · exact Or.inr ⟨g, h1, by omega, h3⟩
theorem OwnI.keep {W W' : World} {lo : Nat} {sa : Option Addr} {L : List Int} (h : OwnI W lo sa L) (x : Bel W W') : OwnI W' lo sa L := by
  by_cases e : L = []
  · exact Or.inl e
  rcases h with h | ⟨g, h1, h2, h3, h4⟩
  · exact Or.inl h
  · have hg : g < W.heap.size := cell_lt (h3 0 (List.length_pos_iff.2 e))
    exact Or.inr ⟨g, h1, h2, fun j hj => x.box (h3 j hj), fun o => (Below.frozen x (p := ⟨g, o, none⟩) hg).trans (h4 o)⟩
theorem OwnI.alloc {W : World} {lo : Nat} {sa : Option Addr} {L : List Int} (h : OwnI W lo sa L) : OwnI (W.alloc (.cells #[] 2)) lo sa L := h.keep ((Ext.refl W).alloc _ _).bl
theorem own_ne_new {W : World} {lo : Nat} {sa : Option Addr} {L : List Int} (h : OwnI W lo sa L) (hx : L ≠ []) : ∀ g, sa = some ⟨g, 0, none⟩ → g ≠ W.heap.size := fun g hg => by
  rcases h with h | ⟨g2, h1, h2, h3, h4⟩
  · exact absurd h hx
  · have : g2 < W.heap.size := cell_lt (h3 0 (List.length_pos_iff.2 hx))
    rw [h1] at hg
    simp at hg
    omega
theorem own_ge {W : World} {lo : Nat} {sa : Option Addr} {L : List Int} (h : OwnI W lo sa L) : L ≠ [] → ∀ g, sa = some ⟨g, 0, none⟩ → lo ≤ g := fun hx g hg => by
  rcases h with h | ⟨g2, h1, h2, h3, h4⟩
  · exact absurd h hx
  · rw [h1] at hg
    simp at hg
    omega
theorem own_ne_old {L : List Int} {W : World} {sa : Option Addr} (h : L ≠ [] → ∀ g, sa = some ⟨g, 0, none⟩ → (W.alloc (.cells #[] 2)).drew.heap.size ≤ g) (hx : L ≠ []) : ∀ g, sa = some ⟨g, 0, none⟩ → g ≠ W.heap.size := fun g hg => by
  have := h hx g hg
  simp [World.drew] at this
  omega
theorem view_two {xs ss : List Int} {P : Prop} (hl : ss.length = xs.length) (h : xs ≠ [] → ss ≠ [] → P) : (xs = [] ∧ ss = []) ∨ P := by
  by_cases e : xs = []
  · subst e; exact Or.inl ⟨rfl, List.eq_nil_of_length_eq_zero hl⟩
  · exact Or.inr (h e (fun q => e (List.eq_nil_of_length_eq_zero (by rw [← hl, q]; rfl))))
theorem far3 {W : World} {R j : Nat} {v0 v1 v2 u : Value} (h : W.cell? ⟨R, j, none⟩ = some u) :
    (((W.setCell ⟨R + 1, 0, none⟩ v0).setCell ⟨R + 1, 1, none⟩ v1).setCell ⟨R + 1, 2, none⟩ v2).cell? ⟨R, j, none⟩ = some u :=
  far1 (by omega) (far1 (by omega) (far1 (by omega) h))

theorem szk {W A : World} {k : Nat} (h : k ≤ W.heap.size) (hA : A = W.drew ∨ A = (W.alloc (.cells #[] 2)).drew) : k ≤ A.heap.size := by
  rcases hA with rfl | rfl
  · exact h
  · exact Nat.le_trans h (by simp [World.drew])
theorem frk {w W A W' : World} {n a0 a1 a2 a3 b0 b1 b2 b3 off : Int} (h : FR w W n a0 a1 a2 a3 b0 b1 b2 b3 off) (hA : A = W.drew ∨ A = (W.alloc (.cells #[] 2)).drew) (x : Bel A W') : FR w W' n a0 a1 a2 a3 b0 b1 b2 b3 off := by
  rcases hA with rfl | rfl
  · exact (h.keep (bel_drew W)).keep x
  · exact ((h.alloc #[] 2).keep (bel_drew _)).keep x
theorem own_made2 {w W : World} (h : w.heap.size + 2 ≤ W.heap.size) : (W.alloc (.cells #[] 2)).drew.ownsRow (w.heap.size + 2) 2 1 (.slice (some ⟨W.heap.size, 0, none⟩) 0 0) 0 [] :=
  own_below (own_made h) (bel_drew _) (fun g hg => by simp [Value.ownBlock] at hg; subst hg; simp)
theorem near {W : World} {R i j : Nat} {v u : Value} (hne : i ≠ j) (h : W.cell? ⟨R, j, none⟩ = some u) : (W.setCell ⟨R, i, none⟩ v).cell? ⟨R, j, none⟩ = some u := by
  rw [World.cell?_setCell_other _ _ _ _ (by intro h; simp only [Addr.mk.injEq] at h; omega)]; exact h
theorem set3_0 {W : World} {R : Nat} {v0 v1 v2 u : Value} (h : W.cell? ⟨R, 0, none⟩ = some u) : (((W.setCell ⟨R, 0, none⟩ v0).setCell ⟨R, 1, none⟩ v1).setCell ⟨R, 2, none⟩ v2).cell? ⟨R, 0, none⟩ = some v0 :=
  near (by omega) (near (by omega) (World.cell?_setCell_same _ _ _ h))
theorem set3_1 {W : World} {R : Nat} {v0 v1 v2 u : Value} (h : W.cell? ⟨R, 1, none⟩ = some u) : (((W.setCell ⟨R, 0, none⟩ v0).setCell ⟨R, 1, none⟩ v1).setCell ⟨R, 2, none⟩ v2).cell? ⟨R, 1, none⟩ = some v1 :=
  near (by omega) (World.cell?_setCell_same _ _ _ (near (by omega) h))
theorem set3_2 {W : World} {R : Nat} {v0 v1 v2 u : Value} (h : W.cell? ⟨R, 2, none⟩ = some u) : (((W.setCell ⟨R, 0, none⟩ v0).setCell ⟨R, 1, none⟩ v1).setCell ⟨R, 2, none⟩ v2).cell? ⟨R, 2, none⟩ = some v2 :=
  World.cell?_setCell_same _ _ _ (near (by omega) (near (by omega) h))

set_option maxRecDepth 100000 in
set_option maxHeartbeats 4000000 in
theorem view_any (w : World) (xs ss : List Int) (off : Int) (h4 : xs.length ≤ 4) (hl : ss.length = xs.length) :
    Calls Try.prog 64 #[.agg (vw xs ss off)] w fun e w' => VOk w xs ss off e w' := by
  obtain ⟨i0, hi0, hz0, hz1, hz2⟩ := info_parts info2
  have hone : 0 < 1 := Nat.one_pos
  have Hl := hide hl
  have Hs4 : Hid (ss.length ≤ 4) := by show ss.length ≤ 4; omega
  have hM63 : 0 + xs.length ≤ maxLen := by unfold maxLen; omega
  have hM8 : (0 + xs.length) * 8 ≤ 140737488355328 := by omega
  clear hl
  have h4' : (xs.length : Int) ≤ 4 := by omega
  have hL : Hid (∀ W, Calls Try.prog 57 #[.agg (shp xs)] W fun e w' => ListOk W xs e w') := fun W => list_any W xs h4
  unfold vw
  unfold shp at hL
  generalize hxa0 : xs.getD 0 0 = a0 at hL ⊢
  generalize hxa1 : xs.getD 1 0 = a1 at hL ⊢
  generalize hxa2 : xs.getD 2 0 = a2 at hL ⊢
  generalize hxa3 : xs.getD 3 0 = a3 at hL ⊢
  generalize hsb0 : ss.getD 0 0 = b0
  generalize hsb1 : ss.getD 1 0 = b1
  generalize hsb2 : ss.getD 2 0 = b2
  generalize hsb3 : ss.getD 3 0 = b3
  have E0 := hide hsb0
  have E1 := hide hsb1
  have E2 := hide hsb2
  have E3 := hide hsb3
  clear hxa0 hxa1 hxa2 hxa3 hsb0 hsb1 hsb2 hsb3
  generalize hn : (xs.length : Int) = n at hL h4' ⊢
  have x0 : Ext w ((w.alloc (.cells #[.int .i64 n, .int .i64 a0, .int .i64 a1, .int .i64 a2, .int .i64 a3, .int .i64 b0, .int .i64 b1, .int .i64 b2, .int .i64 b3, .int .i64 off] 64)).alloc (.cells #[.slice none 0 0, .slice none 0 0, .int .i64 0] 27)) := ((Ext.refl w).alloc _ _).alloc _ _
  have y1 : Ext (w.alloc (.cells #[.int .i64 n, .int .i64 a0, .int .i64 a1, .int .i64 a2, .int .i64 a3, .int .i64 b0, .int .i64 b1, .int .i64 b2, .int .i64 b3, .int .i64 off] 64)) ((w.alloc (.cells #[.int .i64 n, .int .i64 a0, .int .i64 a1, .int .i64 a2, .int .i64 a3, .int .i64 b0, .int .i64 b1, .int .i64 b2, .int .i64 b3, .int .i64 off] 64)).alloc (.cells #[.slice none 0 0, .slice none 0 0, .int .i64 0] 27)) := (Ext.refl _).alloc _ _
  have n1 := fun j => new_cell w #[.int .i64 n, .int .i64 a0, .int .i64 a1, .int .i64 a2, .int .i64 a3, .int .i64 b0, .int .i64 b1, .int .i64 b2, .int .i64 b3, .int .i64 off] 64 w.heap.size rfl j
  have n2 := fun j => new_cell (w.alloc (.cells #[.int .i64 n, .int .i64 a0, .int .i64 a1, .int .i64 a2, .int .i64 a3, .int .i64 b0, .int .i64 b1, .int .i64 b2, .int .i64 b3, .int .i64 off] 64)) #[.slice none 0 0, .slice none 0 0, .int .i64 0] 27 (w.heap.size + 1) (by simp) j
  have FF : Hid (FR w ((w.alloc (.cells #[.int .i64 n, .int .i64 a0, .int .i64 a1, .int .i64 a2, .int .i64 a3, .int .i64 b0, .int .i64 b1, .int .i64 b2, .int .i64 b3, .int .i64 off] 64)).alloc (.cells #[.slice none 0 0, .slice none 0 0, .int .i64 0] 27)) n a0 a1 a2 a3 b0 b1 b2 b3 off) :=
    ⟨y1.box (n1 0), y1.box (n1 1), y1.box (n1 2), y1.box (n1 3), y1.box (n1 4), y1.box (n1 5), y1.box (n1 6), y1.box (n1 7), y1.box (n1 8), y1.box (n1 9), n2 0, n2 1, n2 2, fun o => x0.unfrozen (by omega) o, by simp, x0.bl⟩
  clear x0 y1 n1 n2
  go_enter Try.func64, Try.ntmps64
  go_wp2_with fail
  generalize hW : ((w.alloc (.cells #[.int .i64 n, .int .i64 a0, .int .i64 a1, .int .i64 a2, .int .i64 a3, .int .i64 b0, .int .i64 b1, .int .i64 b2, .int .i64 b3, .int .i64 off] 64)).alloc (.cells #[.slice none 0 0, .slice none 0 0, .int .i64 0] 27)) = W0 at FF ⊢
  clear hW
  have FD := hide (FF.out.keep (bel_drew W0))
  have SA : Hid ((fun w' => w'.cell? ⟨w.heap.size, 0, none⟩ = some (.int .i64 n) ∧ w'.cell? ⟨w.heap.size, 1, none⟩ = some (.int .i64 a0) ∧ w'.cell? ⟨w.heap.size, 2, none⟩ = some (.int .i64 a1) ∧ w'.cell? ⟨w.heap.size, 3, none⟩ = some (.int .i64 a2) ∧ w'.cell? ⟨w.heap.size, 4, none⟩ = some (.int .i64 a3) ∧ w'.cell? ⟨w.heap.size, 5, none⟩ = some (.int .i64 b0) ∧ w'.cell? ⟨w.heap.size, 6, none⟩ = some (.int .i64 b1) ∧ w'.cell? ⟨w.heap.size, 7, none⟩ = some (.int .i64 b2) ∧ w'.cell? ⟨w.heap.size, 8, none⟩ = some (.int .i64 b3) ∧ w'.cell? ⟨w.heap.size, 9, none⟩ = some (.int .i64 off)) W0.drew) := ⟨FD.out.c0, FD.out.c1, FD.out.c2, FD.out.c3, FD.out.c4, FD.out.c5, FD.out.c6, FD.out.c7, FD.out.c8, FD.out.c9⟩
  have SD : Hid ((fun w' => w'.cell? ⟨w.heap.size, 0, none⟩ = some (.int .i64 n) ∧ w'.cell? ⟨w.heap.size, 1, none⟩ = some (.int .i64 a0) ∧ w'.cell? ⟨w.heap.size, 2, none⟩ = some (.int .i64 a1) ∧ w'.cell? ⟨w.heap.size, 3, none⟩ = some (.int .i64 a2) ∧ w'.cell? ⟨w.heap.size, 4, none⟩ = some (.int .i64 a3) ∧ w'.cell? ⟨w.heap.size, 5, none⟩ = some (.int .i64 b0) ∧ w'.cell? ⟨w.heap.size, 6, none⟩ = some (.int .i64 b1) ∧ w'.cell? ⟨w.heap.size, 7, none⟩ = some (.int .i64 b2) ∧ w'.cell? ⟨w.heap.size, 8, none⟩ = some (.int .i64 b3) ∧ w'.cell? ⟨w.heap.size, 9, none⟩ = some (.int .i64 off)) (W0.alloc (.cells #[] 2)).drew) := ⟨((FF.out.alloc #[] 2).keep (bel_drew _)).c0, ((FF.out.alloc #[] 2).keep (bel_drew _)).c1, ((FF.out.alloc #[] 2).keep (bel_drew _)).c2, ((FF.out.alloc #[] 2).keep (bel_drew _)).c3, ((FF.out.alloc #[] 2).keep (bel_drew _)).c4, ((FF.out.alloc #[] 2).keep (bel_drew _)).c5, ((FF.out.alloc #[] 2).keep (bel_drew _)).c6, ((FF.out.alloc #[] 2).keep (bel_drew _)).c7, ((FF.out.alloc #[] 2).keep (bel_drew _)).c8, ((FF.out.alloc #[] 2).keep (bel_drew _)).c9⟩
  have hn0 : 0 ≤ n := by omega
  have hnt : n.toNat = xs.length := by omega
  have Hn := hide hn
  clear hn
  go_region_held3 (fun w' => w'.cell? ⟨w.heap.size, 0, none⟩ = some (.int .i64 n) ∧ w'.cell? ⟨w.heap.size, 1, none⟩ = some (.int .i64 a0) ∧ w'.cell? ⟨w.heap.size, 2, none⟩ = some (.int .i64 a1) ∧ w'.cell? ⟨w.heap.size, 3, none⟩ = some (.int .i64 a2) ∧ w'.cell? ⟨w.heap.size, 4, none⟩ = some (.int .i64 a3) ∧ w'.cell? ⟨w.heap.size, 5, none⟩ = some (.int .i64 b0) ∧ w'.cell? ⟨w.heap.size, 6, none⟩ = some (.int .i64 b1) ∧ w'.cell? ⟨w.heap.size, 7, none⟩ = some (.int .i64 b2) ∧ w'.cell? ⟨w.heap.size, 8, none⟩ = some (.int .i64 b3) ∧ w'.cell? ⟨w.heap.size, 9, none⟩ = some (.int .i64 off)) (first | with_reducible exact SA.out | with_reducible exact SL.out | with_reducible exact SD.out | with_reducible exact SM.out | with_reducible exact S5.out | with_reducible exact S6.out | exact SD.out | fail) (first | (go_at_call 57; refine (hL.out _).mono ?_; rintro e w3 ⟨sa, ca, rfl, hO, hB3⟩; have F3 : Hid (FR w w3 n a0 a1 a2 a3 b0 b1 b2 b3 off) := frk FF.out (by first | with_reducible exact Or.inl rfl | with_reducible exact Or.inr rfl) hB3; have SL : Hid ((fun w' => w'.cell? ⟨w.heap.size, 0, none⟩ = some (.int .i64 n) ∧ w'.cell? ⟨w.heap.size, 1, none⟩ = some (.int .i64 a0) ∧ w'.cell? ⟨w.heap.size, 2, none⟩ = some (.int .i64 a1) ∧ w'.cell? ⟨w.heap.size, 3, none⟩ = some (.int .i64 a2) ∧ w'.cell? ⟨w.heap.size, 4, none⟩ = some (.int .i64 a3) ∧ w'.cell? ⟨w.heap.size, 5, none⟩ = some (.int .i64 b0) ∧ w'.cell? ⟨w.heap.size, 6, none⟩ = some (.int .i64 b1) ∧ w'.cell? ⟨w.heap.size, 7, none⟩ = some (.int .i64 b2) ∧ w'.cell? ⟨w.heap.size, 8, none⟩ = some (.int .i64 b3) ∧ w'.cell? ⟨w.heap.size, 9, none⟩ = some (.int .i64 off)) w3) := ⟨F3.out.c0, F3.out.c1, F3.out.c2, F3.out.c3, F3.out.c4, F3.out.c5, F3.out.c6, F3.out.c7, F3.out.c8, F3.out.c9⟩; have SM : Hid ((fun w' => w'.cell? ⟨w.heap.size, 0, none⟩ = some (.int .i64 n) ∧ w'.cell? ⟨w.heap.size, 1, none⟩ = some (.int .i64 a0) ∧ w'.cell? ⟨w.heap.size, 2, none⟩ = some (.int .i64 a1) ∧ w'.cell? ⟨w.heap.size, 3, none⟩ = some (.int .i64 a2) ∧ w'.cell? ⟨w.heap.size, 4, none⟩ = some (.int .i64 a3) ∧ w'.cell? ⟨w.heap.size, 5, none⟩ = some (.int .i64 b0) ∧ w'.cell? ⟨w.heap.size, 6, none⟩ = some (.int .i64 b1) ∧ w'.cell? ⟨w.heap.size, 7, none⟩ = some (.int .i64 b2) ∧ w'.cell? ⟨w.heap.size, 8, none⟩ = some (.int .i64 b3) ∧ w'.cell? ⟨w.heap.size, 9, none⟩ = some (.int .i64 off)) (w3.alloc (.cells #[] 2))) := ⟨(F3.out.alloc #[] 2).c0, (F3.out.alloc #[] 2).c1, (F3.out.alloc #[] 2).c2, (F3.out.alloc #[] 2).c3, (F3.out.alloc #[] 2).c4, (F3.out.alloc #[] 2).c5, (F3.out.alloc #[] 2).c6, (F3.out.alloc #[] 2).c7, (F3.out.alloc #[] 2).c8, (F3.out.alloc #[] 2).c9⟩; have H3 : Hid (OwnI w3 (w.heap.size + 2) sa xs) := hO.low (szk FF.out.sz (by first | with_reducible exact Or.inl rfl | with_reducible exact Or.inr rfl)); have HB := hide (own_ge hO); have HB3 := hide hB3; clear hO hB3) | (refine step_append_at _ (by rfl) (.tmp 6) (.tmp 11) 22 (by rfl) (w.heap.size + 2) 2 i0 (.int .i64 0) 1 8 Try.underlying22 hi0 hz0 hz1 hz2 rfl hone (.slice (some ⟨w3.heap.size, 0, none⟩) 0 0) 0 [] (by rfl) (own_made F3.out.sz) ⟨w.heap.size, 5, none⟩ xs.length 4 (ss.map (Value.int .i64)) (by rfl) (map_len Hl.out) ((F3.out.alloc #[] 2).news Hs4.out E0.out E1.out E2.out E3.out) (one_cells ss) hM63 hM8 (F3.out.alloc #[] 2).sz ?_; intro v5 w5 hown5 hgrow5 hat5; obtain ⟨sb, cb, rfl, hO5⟩ := own_of (w := w) (L := ss) (by omega) hown5; have F5 := hide ((F3.out.alloc #[] 2).grown hgrow5 (by have := FF.out.sz; have := F3.out.sz; first | omega | (simp; omega))); have HT : Hid ((xs = [] ∧ ss = []) ∨ Two (w.heap.size + 2) w5 (.slice sa xs.length ca) (.slice sb ss.length cb) xs ss) := view_two Hl.out (fun hx hs => two_of hx hs (OwnI.alloc H3.out) (own_ne_new H3.out hx) F3.out.sz (by simp) hown5 hgrow5 hat5); have S5 : Hid ((fun w' => w'.cell? ⟨w.heap.size, 0, none⟩ = some (.int .i64 n) ∧ w'.cell? ⟨w.heap.size, 1, none⟩ = some (.int .i64 a0) ∧ w'.cell? ⟨w.heap.size, 2, none⟩ = some (.int .i64 a1) ∧ w'.cell? ⟨w.heap.size, 3, none⟩ = some (.int .i64 a2) ∧ w'.cell? ⟨w.heap.size, 4, none⟩ = some (.int .i64 a3) ∧ w'.cell? ⟨w.heap.size, 5, none⟩ = some (.int .i64 b0) ∧ w'.cell? ⟨w.heap.size, 6, none⟩ = some (.int .i64 b1) ∧ w'.cell? ⟨w.heap.size, 7, none⟩ = some (.int .i64 b2) ∧ w'.cell? ⟨w.heap.size, 8, none⟩ = some (.int .i64 b3) ∧ w'.cell? ⟨w.heap.size, 9, none⟩ = some (.int .i64 off)) w5) := ⟨F5.out.c0, F5.out.c1, F5.out.c2, F5.out.c3, F5.out.c4, F5.out.c5, F5.out.c6, F5.out.c7, F5.out.c8, F5.out.c9⟩; have S6 : Hid ((fun w' => w'.cell? ⟨w.heap.size, 0, none⟩ = some (.int .i64 n) ∧ w'.cell? ⟨w.heap.size, 1, none⟩ = some (.int .i64 a0) ∧ w'.cell? ⟨w.heap.size, 2, none⟩ = some (.int .i64 a1) ∧ w'.cell? ⟨w.heap.size, 3, none⟩ = some (.int .i64 a2) ∧ w'.cell? ⟨w.heap.size, 4, none⟩ = some (.int .i64 a3) ∧ w'.cell? ⟨w.heap.size, 5, none⟩ = some (.int .i64 b0) ∧ w'.cell? ⟨w.heap.size, 6, none⟩ = some (.int .i64 b1) ∧ w'.cell? ⟨w.heap.size, 7, none⟩ = some (.int .i64 b2) ∧ w'.cell? ⟨w.heap.size, 8, none⟩ = some (.int .i64 b3) ∧ w'.cell? ⟨w.heap.size, 9, none⟩ = some (.int .i64 off)) (((w5.setCell ⟨w.heap.size + 1, 0, none⟩ (.slice sa xs.length ca)).setCell ⟨w.heap.size + 1, 1, none⟩ (.slice sb ss.length cb)).setCell ⟨w.heap.size + 1, 2, none⟩ (.int .i64 off))) := ⟨far3 F5.out.c0, far3 F5.out.c1, far3 F5.out.c2, far3 F5.out.c3, far3 F5.out.c4, far3 F5.out.c5, far3 F5.out.c6, far3 F5.out.c7, far3 F5.out.c8, far3 F5.out.c9⟩; have u0 := F5.out.r0; have u1 := F5.out.r1; have u2 := F5.out.r2; have uf := F5.out.rf; clear hown5 hgrow5 hat5 hO5) | (refine step_append_at _ (by rfl) (.tmp 6) (.tmp 11) 22 (by rfl) (w.heap.size + 2) 2 i0 (.int .i64 0) 1 8 Try.underlying22 hi0 hz0 hz1 hz2 rfl hone (.slice (some ⟨W0.heap.size, 0, none⟩) 0 0) 0 [] (by rfl) (own_below (own_made2 FF.out.sz) HB3.out (fun g hg => by simp [Value.ownBlock] at hg; subst hg; simp [World.drew])) ⟨w.heap.size, 5, none⟩ xs.length 4 (ss.map (Value.int .i64)) (by rfl) (map_len Hl.out) (F3.out.news Hs4.out E0.out E1.out E2.out E3.out) (one_cells ss) hM63 hM8 F3.out.sz ?_; intro v5 w5 hown5 hgrow5 hat5; obtain ⟨sb, cb, rfl, hO5⟩ := own_of (w := w) (L := ss) (by omega) hown5; have F5 := hide (F3.out.grown hgrow5 (by have := FF.out.sz; have := F3.out.sz; first | omega | (simp; omega))); have HT : Hid ((xs = [] ∧ ss = []) ∨ Two (w.heap.size + 2) w5 (.slice sa xs.length ca) (.slice sb ss.length cb) xs ss) := view_two Hl.out (fun hx hs => two_of hx hs H3.out (own_ne_old HB.out hx) FF.out.sz (by have := Below.size HB3.out; simp [World.drew] at this; omega) hown5 hgrow5 hat5); have S5 : Hid ((fun w' => w'.cell? ⟨w.heap.size, 0, none⟩ = some (.int .i64 n) ∧ w'.cell? ⟨w.heap.size, 1, none⟩ = some (.int .i64 a0) ∧ w'.cell? ⟨w.heap.size, 2, none⟩ = some (.int .i64 a1) ∧ w'.cell? ⟨w.heap.size, 3, none⟩ = some (.int .i64 a2) ∧ w'.cell? ⟨w.heap.size, 4, none⟩ = some (.int .i64 a3) ∧ w'.cell? ⟨w.heap.size, 5, none⟩ = some (.int .i64 b0) ∧ w'.cell? ⟨w.heap.size, 6, none⟩ = some (.int .i64 b1) ∧ w'.cell? ⟨w.heap.size, 7, none⟩ = some (.int .i64 b2) ∧ w'.cell? ⟨w.heap.size, 8, none⟩ = some (.int .i64 b3) ∧ w'.cell? ⟨w.heap.size, 9, none⟩ = some (.int .i64 off)) w5) := ⟨F5.out.c0, F5.out.c1, F5.out.c2, F5.out.c3, F5.out.c4, F5.out.c5, F5.out.c6, F5.out.c7, F5.out.c8, F5.out.c9⟩; have S6 : Hid ((fun w' => w'.cell? ⟨w.heap.size, 0, none⟩ = some (.int .i64 n) ∧ w'.cell? ⟨w.heap.size, 1, none⟩ = some (.int .i64 a0) ∧ w'.cell? ⟨w.heap.size, 2, none⟩ = some (.int .i64 a1) ∧ w'.cell? ⟨w.heap.size, 3, none⟩ = some (.int .i64 a2) ∧ w'.cell? ⟨w.heap.size, 4, none⟩ = some (.int .i64 a3) ∧ w'.cell? ⟨w.heap.size, 5, none⟩ = some (.int .i64 b0) ∧ w'.cell? ⟨w.heap.size, 6, none⟩ = some (.int .i64 b1) ∧ w'.cell? ⟨w.heap.size, 7, none⟩ = some (.int .i64 b2) ∧ w'.cell? ⟨w.heap.size, 8, none⟩ = some (.int .i64 b3) ∧ w'.cell? ⟨w.heap.size, 9, none⟩ = some (.int .i64 off)) (((w5.setCell ⟨w.heap.size + 1, 0, none⟩ (.slice sa xs.length ca)).setCell ⟨w.heap.size + 1, 1, none⟩ (.slice sb ss.length cb)).setCell ⟨w.heap.size + 1, 2, none⟩ (.int .i64 off))) := ⟨far3 F5.out.c0, far3 F5.out.c1, far3 F5.out.c2, far3 F5.out.c3, far3 F5.out.c4, far3 F5.out.c5, far3 F5.out.c6, far3 F5.out.c7, far3 F5.out.c8, far3 F5.out.c9⟩; have u0 := F5.out.r0; have u1 := F5.out.r1; have u2 := F5.out.r2; have uf := F5.out.rf; clear hown5 hgrow5 hat5 hO5) | fail)
  all_goals go_wp2
  all_goals
    have q0 : (((w5.setCell ⟨w.heap.size + 1, 0, none⟩ (.slice sa xs.length ca)).setCell ⟨w.heap.size + 1, 1, none⟩ (.slice sb ss.length cb)).setCell ⟨w.heap.size + 1, 2, none⟩ (.int .i64 off)).cell? ⟨w.heap.size + 1, 0, none⟩ = some (.slice sa xs.length ca) := set3_0 F5.out.r0
    have q1 : (((w5.setCell ⟨w.heap.size + 1, 0, none⟩ (.slice sa xs.length ca)).setCell ⟨w.heap.size + 1, 1, none⟩ (.slice sb ss.length cb)).setCell ⟨w.heap.size + 1, 2, none⟩ (.int .i64 off)).cell? ⟨w.heap.size + 1, 1, none⟩ = some (.slice sb ss.length cb) := set3_1 F5.out.r1
    have q2 : (((w5.setCell ⟨w.heap.size + 1, 0, none⟩ (.slice sa xs.length ca)).setCell ⟨w.heap.size + 1, 1, none⟩ (.slice sb ss.length cb)).setCell ⟨w.heap.size + 1, 2, none⟩ (.int .i64 off)).cell? ⟨w.heap.size + 1, 2, none⟩ = some (.int .i64 off) := set3_2 F5.out.r2
    exact bodyPost_ret (v := .agg #[.slice sa xs.length ca, .slice sb ss.length cb, .int .i64 off]) (by simp [results, Try.results64, go_sem, q0, q1, q2]) rfl (view_done F5.out HT.out)
end Go.Proofs.Ytiekkninnjffpaa
namespace Go.Proofs.Ytiekkninnjffpaa
open Go.ChangeShapes Go.RowKit
set_option linter.unusedSimpArgs false
set_option linter.unusedVariables false

/-- What szView leaves. -/
def szL (n m : Nat) : Int := if (1048576 : Int) - n < 0 then -1 else if (1048576 : Int) - n - m < 0 then -1 else (1048576 : Int) - n - m

set_option maxRecDepth 100000 in
set_option maxHeartbeats 2000000 in
theorem szView_any (sa sb : Option Addr) (n ca m cb : Nat) (off : Int) (hn : n ≤ 9223372036854775807) (hm : m ≤ 9223372036854775807) (w : World) :
    Calls Try.prog 13 #[.agg #[.slice sa n ca, .slice sb m cb, .int .i64 off], .int .i64 1048576] w fun e w' => e = .returned (.int .i64 (szL n m)) ∧ Ext w w' := by
  have x0 : Ext w (w.alloc (.cells #[.slice sa n ca, .slice sb m cb, .int .i64 off] 24)) := (Ext.refl w).alloc _ _
  have X0 := hide x0
  clear x0
  by_cases h : (1048576 : Int) - (n : Int) < 0
  · have hs : Hid (szL n m = -1) := if_pos h
    go_enter Try.func13, Try.ntmps13
    go_wp2_with fail
    refine (szInts_any sa n ca 1048576 hn (by omega) _).mono ?_
    rintro e w1 ⟨rfl, rfl⟩
    rw [if_pos h]
    go_wp2
    go_ret
    exact ⟨ret_int hs.out.symm, X0.out⟩
  · have hb : 0 ≤ (1048576 : Int) - n ∧ (1048576 : Int) - n ≤ 1048576 := by omega
    by_cases h2 : (1048576 : Int) - (n : Int) - (m : Int) < 0
    · have hs : Hid (szL n m = -1) := by show szL n m = -1; unfold szL; rw [if_neg h, if_pos h2]
      go_enter Try.func13, Try.ntmps13
      go_wp2_with fail
      refine (szInts_any sa n ca 1048576 hn (by omega) _).mono ?_
      rintro e w1 ⟨rfl, rfl⟩
      rw [if_neg (by omega)]
      go_wp2_with fail
      refine (szInts_any sb m cb _ hm hb _).mono ?_
      rintro e w1 ⟨rfl, rfl⟩
      rw [if_pos h2]
      go_wp2
      go_ret
      exact ⟨ret_int hs.out.symm, X0.out⟩
    · have hs : Hid (szL n m = (1048576 : Int) - n - m) := by show szL n m = (1048576 : Int) - n - m; unfold szL; rw [if_neg h, if_neg h2]
      go_enter Try.func13, Try.ntmps13
      go_wp2_with fail
      refine (szInts_any sa n ca 1048576 hn (by omega) _).mono ?_
      rintro e w1 ⟨rfl, rfl⟩
      rw [if_neg (by omega)]
      go_wp2_with fail
      refine (szInts_any sb m cb _ hm hb _).mono ?_
      rintro e w1 ⟨rfl, rfl⟩
      rw [if_neg (by omega)]
      go_wp2
      go_ret
      exact ⟨ret_int hs.out.symm, X0.out⟩
end Go.Proofs.Ytiekkninnjffpaa
namespace Go.Proofs.Ytiekkninnjffpaa
open Go.ChangeShapes Go.RowKit
set_option linter.unusedSimpArgs false
set_option linter.unusedVariables false

def ToVOk (w : World) (xs ss : List Int) (off : Int) (e : Ending) (w' : World) : Prop :=
  ∃ b c : Nat, e = .returned (.agg #[.slice (some ⟨b, 0, none⟩) xs.length xs.length, .slice (some ⟨c, 0, none⟩) ss.length ss.length, .int .i64 off]) ∧ w.heap.size ≤ b ∧ b < c ∧ c < w'.heap.size ∧ Row w' b 0 xs ∧ Row w' c 0 ss ∧ Ext w w'

set_option maxRecDepth 100000 in
set_option maxHeartbeats 2000000 in
theorem toView_any {w : World} {v u : Value} {xs ss : List Int} (h : Ints w v xs) (g : Ints w u ss) (off : Int) (lx : xs.length ≤ 1048576) (ls : ss.length ≤ 1048576) :
    Calls Try.prog 15 #[.agg #[v, u, .int .i64 off]] w fun e w' => ToVOk w xs ss off e w' := by
  obtain ⟨sa, ca, rfl, rS⟩ := h
  obtain ⟨sb, cb, rfl, rT⟩ := g
  have x0 : Ext w (((w.alloc (.cells #[.slice sa xs.length ca, .slice sb ss.length cb, .int .i64 off] 24)).alloc (.cells #[.slice none 0 0, .slice none 0 0, .int .i64 0] 27)).alloc (.cells #[.slice none 0 0, .slice none 0 0, .int .i64 0] 27)) := (((Ext.refl w).alloc _ _).alloc _ _).alloc _ _
  have y1 : Ext (w.alloc (.cells #[.slice sa xs.length ca, .slice sb ss.length cb, .int .i64 off] 24)) (((w.alloc (.cells #[.slice sa xs.length ca, .slice sb ss.length cb, .int .i64 off] 24)).alloc (.cells #[.slice none 0 0, .slice none 0 0, .int .i64 0] 27)).alloc (.cells #[.slice none 0 0, .slice none 0 0, .int .i64 0] 27)) := ((Ext.refl _).alloc _ _).alloc _ _
  have y2 : Ext ((w.alloc (.cells #[.slice sa xs.length ca, .slice sb ss.length cb, .int .i64 off] 24)).alloc (.cells #[.slice none 0 0, .slice none 0 0, .int .i64 0] 27)) (((w.alloc (.cells #[.slice sa xs.length ca, .slice sb ss.length cb, .int .i64 off] 24)).alloc (.cells #[.slice none 0 0, .slice none 0 0, .int .i64 0] 27)).alloc (.cells #[.slice none 0 0, .slice none 0 0, .int .i64 0] 27)) := (Ext.refl _).alloc _ _
  have n1 := fun j => new_cell w #[.slice sa xs.length ca, .slice sb ss.length cb, .int .i64 off] 24 w.heap.size rfl j
  have n2 := fun j => new_cell (w.alloc (.cells #[.slice sa xs.length ca, .slice sb ss.length cb, .int .i64 off] 24)) #[.slice none 0 0, .slice none 0 0, .int .i64 0] 27 (w.heap.size + 1) (by simp) j
  have n3 := fun j => new_cell ((w.alloc (.cells #[.slice sa xs.length ca, .slice sb ss.length cb, .int .i64 off] 24)).alloc (.cells #[.slice none 0 0, .slice none 0 0, .int .i64 0] 27)) #[.slice none 0 0, .slice none 0 0, .int .i64 0] 27 (w.heap.size + 1 + 1) (by simp) j
  have a1 := y1.box (n1 1)
  have a2 := y1.box (n1 2)
  have r0 := y2.box (n2 0)
  have r1 := y2.box (n2 1)
  have r2 := y2.box (n2 2)
  have o0 : (((w.alloc (.cells #[.slice sa xs.length ca, .slice sb ss.length cb, .int .i64 off] 24)).alloc (.cells #[.slice none 0 0, .slice none 0 0, .int .i64 0] 27)).alloc (.cells #[.slice none 0 0, .slice none 0 0, .int .i64 0] 27)).cell? ⟨w.heap.size + 1 + 1, 0, none⟩ = some (.slice none 0 0) := n3 0
  have o1 : (((w.alloc (.cells #[.slice sa xs.length ca, .slice sb ss.length cb, .int .i64 off] 24)).alloc (.cells #[.slice none 0 0, .slice none 0 0, .int .i64 0] 27)).alloc (.cells #[.slice none 0 0, .slice none 0 0, .int .i64 0] 27)).cell? ⟨w.heap.size + 1 + 1, 1, none⟩ = some (.slice none 0 0) := n3 1
  have o2 : (((w.alloc (.cells #[.slice sa xs.length ca, .slice sb ss.length cb, .int .i64 off] 24)).alloc (.cells #[.slice none 0 0, .slice none 0 0, .int .i64 0] 27)).alloc (.cells #[.slice none 0 0, .slice none 0 0, .int .i64 0] 27)).cell? ⟨w.heap.size + 1 + 1, 2, none⟩ = some (.int .i64 0) := n3 2
  have HS : Hid (Ints (((w.alloc (.cells #[.slice sa xs.length ca, .slice sb ss.length cb, .int .i64 off] 24)).alloc (.cells #[.slice none 0 0, .slice none 0 0, .int .i64 0] 27)).alloc (.cells #[.slice none 0 0, .slice none 0 0, .int .i64 0] 27)) (.slice sa xs.length ca) xs) := Ints.ext ⟨sa, ca, rfl, rS⟩ x0
  have HT : Hid (Ints (((w.alloc (.cells #[.slice sa xs.length ca, .slice sb ss.length cb, .int .i64 off] 24)).alloc (.cells #[.slice none 0 0, .slice none 0 0, .int .i64 0] 27)).alloc (.cells #[.slice none 0 0, .slice none 0 0, .int .i64 0] 27)) (.slice sb ss.length cb) ss) := Ints.ext ⟨sb, cb, rfl, rT⟩ x0
  have X0 := hide x0
  have hsz : Hid ((((w.alloc (.cells #[.slice sa xs.length ca, .slice sb ss.length cb, .int .i64 off] 24)).alloc (.cells #[.slice none 0 0, .slice none 0 0, .int .i64 0] 27)).alloc (.cells #[.slice none 0 0, .slice none 0 0, .int .i64 0] 27)).heap.size = w.heap.size + 1 + 1 + 1) := by show (((w.alloc (.cells #[.slice sa xs.length ca, .slice sb ss.length cb, .int .i64 off] 24)).alloc (.cells #[.slice none 0 0, .slice none 0 0, .int .i64 0] 27)).alloc (.cells #[.slice none 0 0, .slice none 0 0, .int .i64 0] 27)).heap.size = _; simp
  have HT0 : Hid (Ints w (.slice sb ss.length cb) ss) := ⟨sb, cb, rfl, rT⟩
  clear n1 n2 n3 y1 y2 x0 rS rT
  go_enter Try.func15, Try.ntmps15
  go_wp2_with fail
  generalize hW : (((w.alloc (.cells #[.slice sa xs.length ca, .slice sb ss.length cb, .int .i64 off] 24)).alloc (.cells #[.slice none 0 0, .slice none 0 0, .int .i64 0] 27)).alloc (.cells #[.slice none 0 0, .slice none 0 0, .int .i64 0] 27)) = W0 at a1 a2 r0 r1 r2 o0 o1 o2 HS HT X0 hsz ⊢
  clear hW
  refine (toInts_any HS.out lx).mono ?_
  rintro e w1 ⟨rfl, row1, x1, s1⟩
  have T1 := hide (HT.out.ext x1)
  have b1 := x1.box a1
  have b2 := x1.box a2
  have p0 := x1.box o0
  have p1 := x1.box o1
  have p2 := x1.box o2
  have q0 := x1.box r0
  have q1 := x1.box r1
  have q2 := x1.box r2
  have X1 := hide (X0.out.trans x1)
  have pf := fun o => X1.out.unfrozen (b := w.heap.size + 1 + 1) (by omega) o
  have Row1 := hide row1
  have S1 := hide s1
  clear a1 a2 r0 r1 r2 o0 o1 o2 x1 row1 s1 HS HT X0
  have m1 : Mut (w.heap.size + 1 + 1) w1 (w1.setCell ⟨w.heap.size + 1 + 1, 0, none⟩ (.slice (some ⟨W0.heap.size, 0, none⟩) xs.length xs.length)) := (Mut.refl _ _).setCell _ _
  have c2 := m1.box (by omega) b2
  have d0 : (w1.setCell ⟨w.heap.size + 1 + 1, 0, none⟩ (.slice (some ⟨W0.heap.size, 0, none⟩) xs.length xs.length)).cell? ⟨w.heap.size + 1 + 1, 0, none⟩ = some (.slice (some ⟨W0.heap.size, 0, none⟩) xs.length xs.length) := World.cell?_setCell_same _ _ _ p0
  have d1 : (w1.setCell ⟨w.heap.size + 1 + 1, 0, none⟩ (.slice (some ⟨W0.heap.size, 0, none⟩) xs.length xs.length)).cell? ⟨w.heap.size + 1 + 1, 1, none⟩ = some (.slice none 0 0) := (World.cell?_setCell_other _ _ _ _ (by intro h; simp only [Addr.mk.injEq] at h; omega)).trans p1
  have d2 : (w1.setCell ⟨w.heap.size + 1 + 1, 0, none⟩ (.slice (some ⟨W0.heap.size, 0, none⟩) xs.length xs.length)).cell? ⟨w.heap.size + 1 + 1, 2, none⟩ = some (.int .i64 0) := (World.cell?_setCell_other _ _ _ _ (by intro h; simp only [Addr.mk.injEq] at h; omega)).trans p2
  have f0 := m1.box (by omega) q0
  have f1 := m1.box (by omega) q1
  have f2 := m1.box (by omega) q2
  have XX := hide (X1.out.setCell (p := ⟨w.heap.size + 1 + 1, 0, none⟩) (by show w.heap.size ≤ w.heap.size + 1 + 1; omega) (.slice (some ⟨W0.heap.size, 0, none⟩) xs.length xs.length))
  have RowA := hide (Row1.out.mut m1 (by have := hsz.out; omega))
  have HTT := hide (HT0.out.ext XX.out)
  have SZ : Hid ((w1.setCell ⟨w.heap.size + 1 + 1, 0, none⟩ (.slice (some ⟨W0.heap.size, 0, none⟩) xs.length xs.length)).heap.size = w1.heap.size) := by show (w1.setCell ⟨w.heap.size + 1 + 1, 0, none⟩ (.slice (some ⟨W0.heap.size, 0, none⟩) xs.length xs.length)).heap.size = _; simp [World.setCell]
  clear m1
  go_wp2_with fail
  generalize hW2 : (w1.setCell ⟨w.heap.size + 1 + 1, 0, none⟩ (.slice (some ⟨W0.heap.size, 0, none⟩) xs.length xs.length)) = W2 at c2 d0 d1 d2 f0 f1 f2 XX RowA HTT SZ ⊢
  clear hW2 b1 b2 p0 p1 p2 q0 q1 q2 pf T1 Row1 X1
  refine (toInts_any HTT.out ls).mono ?_
  rintro e w2 ⟨rfl, row2, x2, s2⟩
  have g2 := x2.box c2
  have e0 := x2.box d0
  have e1 := x2.box d1
  have e2 := x2.box d2
  have h0 := x2.box f0
  have h1 := x2.box f1
  have h2 := x2.box f2
  have RB := hide (RowA.out.ext x2)
  have RC := hide row2
  have XZ := hide (XX.out.trans x2)
  have pf := fun o => XZ.out.unfrozen (b := w.heap.size + 1 + 1) (by omega) o
  have qf := fun o => XZ.out.unfrozen (b := w.heap.size + 1) (by omega) o
  have HSZ : Hid (W0.heap.size = w.heap.size + 1 + 1 + 1 ∧ W0.heap.size < W2.heap.size ∧ W2.heap.size < w2.heap.size) := ⟨hsz.out, by have := S1.out; have := SZ.out; omega, s2⟩
  clear c2 d0 d1 d2 f0 f1 f2 RowA row2 x2 XX HTT SZ S1 hsz s2
  go_wp2
  refine bodyPost_ret (v := .agg #[.slice (some ⟨W0.heap.size, 0, none⟩) xs.length xs.length, .slice (some ⟨W2.heap.size, 0, none⟩) ss.length ss.length, .int .i64 off]) (by simp [results, Try.results15, go_sem, h0, h1, h2]) rfl ⟨W0.heap.size, W2.heap.size, rfl, ?_, ?_, ?_, ?_, ?_, ?_⟩
  · have := HSZ.out; omega
  · exact HSZ.out.2.1
  · have := HSZ.out.2.2; simpa [World.setCell] using this
  · intro j hj
    have := HSZ.out
    iterate 5 rw [World.cell?_setCell_other _ _ _ _ (by intro h; simp only [Addr.mk.injEq] at h; omega)]
    exact RB.out j hj
  · intro j hj
    have := HSZ.out
    iterate 5 rw [World.cell?_setCell_other _ _ _ _ (by intro h; simp only [Addr.mk.injEq] at h; omega)]
    exact RC.out j hj
  · exact ((((XZ.out.setCell (by show w.heap.size ≤ w.heap.size + 1 + 1; omega) _).setCell (by show w.heap.size ≤ w.heap.size + 1 + 1; omega) _).setCell (by show w.heap.size ≤ w.heap.size + 1; omega) _).setCell (by show w.heap.size ≤ w.heap.size + 1; omega) _).setCell (by show w.heap.size ≤ w.heap.size + 1; omega) _
end Go.Proofs.Ytiekkninnjffpaa
namespace Go.Proofs.Ytiekkninnjffpaa
open Go.ChangeShapes Go.RowKit
set_option linter.unusedSimpArgs false
set_option linter.unusedVariables false

theorem fixView_any {w : World} {vS vT : Value} {xs ss : List Int} (hS : Ints w vS xs) (hT : Ints w vT ss) (off : Int) (lx : xs.length ≤ 1048576) (ls : ss.length ≤ 1048576) :
    Calls Try.prog 53 #[.agg #[vS, vT, .int .i64 off]] w fun e w' => FixVOk w xs ss off e w' := by
  by_cases h : Good xs ∧ ss.length = xs.length ∧ (0 ≤ off ∧ off ≤ 4096)
  · exact fixView_good hS hT off lx ls h.1 h.2.1 h.2.2
  · exact fixView_bad hS hT off lx ls h

set_option maxRecDepth 100000 in
set_option maxHeartbeats 2000000 in
theorem iVV_any {w : World} {vS vT : Value} {xs ss : List Int} (hS : Ints w vS xs) (hT : Ints w vT ss) (off : Int) (lx : xs.length ≤ 1048576) (ls : ss.length ≤ 1048576) :
    Calls Try.prog 16 #[.agg #[vS, vT, .int .i64 off]] w fun e w' => e = .returned (.bool (dcValidV xs ss off)) ∧ Ext w w' := by
  have x0 : Ext w (w.alloc (.cells #[vS, vT, .int .i64 off] 27)) := (Ext.refl w).alloc _ _
  have X0 := hide x0
  have HS := hide (hS.ext x0)
  have HT := hide (hT.ext x0)
  obtain ⟨sa, cap, rfl, _⟩ := hS
  obtain ⟨ta, dap, rfl, _⟩ := hT
  clear x0
  go_enter Try.func16, Try.ntmps16
  go_wp2_with fail
  refine (fixView_any HS.out HT.out off lx ls).mono ?_
  rintro e w1 ⟨A, rfl, _, ⟨a0, a1, a2, a3, a4, a5, a6, a7, a8, a9, rfl⟩, x1⟩
  have X1 := hide (X0.out.trans x1)
  clear x1
  generalize hb : (dcValidV xs ss off) = b
  have Hb := hide hb
  clear hb
  go_wp2
  go_ret
  exact ⟨ret_bool Hb.out.symm, by repeat (first | with_reducible exact X1.out | with_reducible apply Ext.alloc)⟩

set_option maxRecDepth 100000 in
set_option maxHeartbeats 4000000 in
theorem lawVV (w : World) (vS vT : Value) (off : Int) (xs ss : List Int) (hS : Ints w vS xs) (hT : Ints w vT ss) (lx : xs.length ≤ 9223372036854775807) (ls : ss.length ≤ 9223372036854775807) :
    Calls Try.prog 3 #[.agg #[vS, vT, .int .i64 off]] w fun e w' => LawOk w e w' := by
  have x0 : Ext w (w.alloc (.cells #[vS, vT, .int .i64 off] 24)) := (Ext.refl w).alloc _ _
  have X0 := hide x0
  have HS := hide (hS.ext x0)
  have HT := hide (hT.ext x0)
  have n1 := fun j => new_cell w #[vS, vT, .int .i64 off] 24 w.heap.size rfl j
  have k0 : (w.alloc (.cells #[vS, vT, .int .i64 off] 24)).cell? ⟨w.heap.size, 0, none⟩ = some vS := n1 0
  have k1 : (w.alloc (.cells #[vS, vT, .int .i64 off] 24)).cell? ⟨w.heap.size, 1, none⟩ = some vT := n1 1
  have k2 : (w.alloc (.cells #[vS, vT, .int .i64 off] 24)).cell? ⟨w.heap.size, 2, none⟩ = some (.int .i64 off) := n1 2
  obtain ⟨sa, cap, rfl, _⟩ := hS
  obtain ⟨ta, dap, rfl, _⟩ := hT
  clear x0 n1
  by_cases hsz : szL xs.length ss.length < 0
  · go_enter Try.func3, Try.ntmps3
    go_wp2_with fail
    refine (szView_any sa ta xs.length cap ss.length dap off lx ls _).mono ?_
    rintro e w1 ⟨rfl, x1⟩
    have X1 := hide (X0.out.trans x1)
    clear x1
    generalize szL xs.length ss.length = z at hsz ⊢
    go_wp2
    go_ret
    exact ⟨rfl, X1.out.bl⟩
  · have hle : xs.length ≤ 1048576 ∧ ss.length ≤ 1048576 := by
      unfold szL at hsz
      split at hsz
      · omega
      · split at hsz <;> omega
    go_enter Try.func3, Try.ntmps3
    go_wp2_with fail
    refine (szView_any sa ta xs.length cap ss.length dap off lx ls _).mono ?_
    rintro e w1 ⟨rfl, x1⟩
    have X1 := hide (X0.out.trans x1)
    have HS1 := hide (HS.out.ext x1)
    have HT1 := hide (HT.out.ext x1)
    have m0 := x1.box k0
    have m1 := x1.box k1
    have m2 := x1.box k2
    clear x1 k0 k1 k2 HS HT X0
    generalize szL xs.length ss.length = z at hsz ⊢
    go_wp2_with fail
    refine (toView_any HS1.out HT1.out off hle.1 hle.2).mono ?_
    rintro e w2 ⟨b, c, rfl, _, _, _, rb, rc, x2⟩
    have Rb := hide (rb.ints (n := xs.length) (cap := xs.length) rfl)
    have Rc := hide (rc.ints (n := ss.length) (cap := ss.length) rfl)
    have X2 := hide (X1.out.trans x2)
    have HS2 := hide (HS1.out.ext x2)
    have HT2 := hide (HT1.out.ext x2)
    have p0 := x2.box m0
    have p1 := x2.box m1
    have p2 := x2.box m2
    clear rb rc x2 m0 m1 m2 HS1 HT1 X1
    go_wp2_with fail
    refine (sVV_any Rb.out Rc.out off hle.1 hle.2).mono ?_
    rintro e w3 ⟨rfl, x3⟩
    have Z3 := hide (Bel.tr X2.out.bl x3)
    have HS3 := hide (HS2.out.below x3)
    have HT3 := hide (HT2.out.below x3)
    have r0 := Bel.box x3 p0
    have r1 := Bel.box x3 p1
    have r2 := Bel.box x3 p2
    clear x3 p0 p1 p2 Rb Rc HS2 HT2 X2
    generalize hv : (dcValidV xs ss off) = vb
    have Hv := hide hv
    clear hv
    go_wp2_with fail
    refine (toView_any HS3.out HT3.out off hle.1 hle.2).mono ?_
    rintro e w4 ⟨b4, c4, rfl, _, _, _, rb, rc, x4⟩
    have RB := hide (rb.ints (n := xs.length) (cap := xs.length) rfl)
    have RC := hide (rc.ints (n := ss.length) (cap := ss.length) rfl)
    have Z4 := hide (Bel.tr Z3.out x4.bl)
    have HS4 := hide (HS3.out.ext x4)
    have HT4 := hide (HT3.out.ext x4)
    have s0 := x4.box r0
    have s1 := x4.box r1
    have s2 := x4.box r2
    clear rb rc x4 r0 r1 r2 HS3 HT3 Z3
    have y4 : Ext w4 (w4.alloc (.cells #[.slice (some ⟨b4, 0, none⟩) xs.length xs.length, .slice (some ⟨c4, 0, none⟩) ss.length ss.length, .int .i64 off] 27)) := (Ext.refl w4).alloc _ _
    have nx := fun j => new_cell w4 #[.slice (some ⟨b4, 0, none⟩) xs.length xs.length, .slice (some ⟨c4, 0, none⟩) ss.length ss.length, .int .i64 off] 27 w4.heap.size rfl j
    have t0 : (w4.alloc (.cells #[.slice (some ⟨b4, 0, none⟩) xs.length xs.length, .slice (some ⟨c4, 0, none⟩) ss.length ss.length, .int .i64 off] 27)).cell? ⟨w4.heap.size, 0, none⟩ = some (.slice (some ⟨b4, 0, none⟩) xs.length xs.length) := nx 0
    have t1 : (w4.alloc (.cells #[.slice (some ⟨b4, 0, none⟩) xs.length xs.length, .slice (some ⟨c4, 0, none⟩) ss.length ss.length, .int .i64 off] 27)).cell? ⟨w4.heap.size, 1, none⟩ = some (.slice (some ⟨c4, 0, none⟩) ss.length ss.length) := nx 1
    have t2 : (w4.alloc (.cells #[.slice (some ⟨b4, 0, none⟩) xs.length xs.length, .slice (some ⟨c4, 0, none⟩) ss.length ss.length, .int .i64 off] 27)).cell? ⟨w4.heap.size, 2, none⟩ = some (.int .i64 off) := nx 2
    have u0 := y4.box s0
    have u1 := y4.box s1
    have u2 := y4.box s2
    have RB5 := hide (RB.out.ext y4)
    have RC5 := hide (RC.out.ext y4)
    have HS5 := hide (HS4.out.ext y4)
    have HT5 := hide (HT4.out.ext y4)
    have Z5 := hide (Bel.tr Z4.out y4.bl)
    clear y4 nx s0 s1 s2 RB RC HS4 HT4 Z4
    go_wp2_with fail
    refine (iVV_any RB5.out RC5.out off hle.1 hle.2).mono ?_
    rintro e w6 ⟨rfl, x6⟩
    rw [Hv.out]
    have v0 := x6.box t0
    have v1 := x6.box t1
    have v2 := x6.box t2
    have q0 := x6.box u0
    have q1 := x6.box u1
    have q2 := x6.box u2
    have RB6 := hide (RB5.out.ext x6)
    have RC6 := hide (RC5.out.ext x6)
    have HS6 := hide (HS5.out.ext x6)
    have HT6 := hide (HT5.out.ext x6)
    have Z6 := hide (Bel.tr Z5.out x6.bl)
    clear x6 t0 t1 t2 u0 u1 u2 RB5 RC5 HS5 HT5 Z5
    go_wp2_with fail
    have D6 : Ext w6 w6.drew := (Ext.refl w6).drew
    have SA : Hid ((fun w' => w'.cell? ⟨w4.heap.size, 0, none⟩ = some (.slice (some ⟨b4, 0, none⟩) xs.length xs.length) ∧ w'.cell? ⟨w4.heap.size, 1, none⟩ = some (.slice (some ⟨c4, 0, none⟩) ss.length ss.length) ∧ w'.cell? ⟨w4.heap.size, 2, none⟩ = some (.int .i64 off) ∧ w'.cell? ⟨w.heap.size, 0, none⟩ = some (.slice sa xs.length cap) ∧ w'.cell? ⟨w.heap.size, 1, none⟩ = some (.slice ta ss.length dap) ∧ w'.cell? ⟨w.heap.size, 2, none⟩ = some (.int .i64 off)) w6.drew) := ⟨v0, v1, v2, q0, q1, q2⟩
    have RB7 := hide (RB6.out.ext D6)
    have RC7 := hide (RC6.out.ext D6)
    have HS7 := hide (HS6.out.ext D6)
    have HT7 := hide (HT6.out.ext D6)
    have Z7 := hide (Bel.tr Z6.out D6.bl)
    clear D6
    go_region_held3 (fun w' => w'.cell? ⟨w4.heap.size, 0, none⟩ = some (.slice (some ⟨b4, 0, none⟩) xs.length xs.length) ∧ w'.cell? ⟨w4.heap.size, 1, none⟩ = some (.slice (some ⟨c4, 0, none⟩) ss.length ss.length) ∧ w'.cell? ⟨w4.heap.size, 2, none⟩ = some (.int .i64 off) ∧ w'.cell? ⟨w.heap.size, 0, none⟩ = some (.slice sa xs.length cap) ∧ w'.cell? ⟨w.heap.size, 1, none⟩ = some (.slice ta ss.length dap) ∧ w'.cell? ⟨w.heap.size, 2, none⟩ = some (.int .i64 off)) (first | exact SA.out | exact SB'.out | exact SC'.out) (first | (go_at_call 15; refine (toView_any HS7.out HT7.out off hle.1 hle.2).mono ?_; rintro e w8 ⟨b8, c8, rfl, _, _, _, rb, rc, x8⟩; have A8 := hide (rb.ints (n := xs.length) (cap := xs.length) rfl); have B8 := hide (rc.ints (n := ss.length) (cap := ss.length) rfl); have RB8 := hide (RB7.out.ext x8); have RC8 := hide (RC7.out.ext x8); have Z8 := hide (Bel.tr Z7.out x8.bl); have SB' : Hid ((fun w' => w'.cell? ⟨w4.heap.size, 0, none⟩ = some (.slice (some ⟨b4, 0, none⟩) xs.length xs.length) ∧ w'.cell? ⟨w4.heap.size, 1, none⟩ = some (.slice (some ⟨c4, 0, none⟩) ss.length ss.length) ∧ w'.cell? ⟨w4.heap.size, 2, none⟩ = some (.int .i64 off) ∧ w'.cell? ⟨w.heap.size, 0, none⟩ = some (.slice sa xs.length cap) ∧ w'.cell? ⟨w.heap.size, 1, none⟩ = some (.slice ta ss.length dap) ∧ w'.cell? ⟨w.heap.size, 2, none⟩ = some (.int .i64 off)) w8) := ⟨x8.box SA.out.1, x8.box SA.out.2.1, x8.box SA.out.2.2.1, x8.box SA.out.2.2.2.1, x8.box SA.out.2.2.2.2.1, x8.box SA.out.2.2.2.2.2⟩; clear rb rc x8) | (go_at_call 17; refine (eqView_true off RB8.out RC8.out A8.out B8.out hle.1 hle.2).mono ?_; rintro e w9 ⟨rfl, x9⟩; have Z9 := hide (Bel.tr Z8.out x9.bl); have SC' : Hid ((fun w' => w'.cell? ⟨w4.heap.size, 0, none⟩ = some (.slice (some ⟨b4, 0, none⟩) xs.length xs.length) ∧ w'.cell? ⟨w4.heap.size, 1, none⟩ = some (.slice (some ⟨c4, 0, none⟩) ss.length ss.length) ∧ w'.cell? ⟨w4.heap.size, 2, none⟩ = some (.int .i64 off) ∧ w'.cell? ⟨w.heap.size, 0, none⟩ = some (.slice sa xs.length cap) ∧ w'.cell? ⟨w.heap.size, 1, none⟩ = some (.slice ta ss.length dap) ∧ w'.cell? ⟨w.heap.size, 2, none⟩ = some (.int .i64 off)) w9) := ⟨x9.box SB'.out.1, x9.box SB'.out.2.1, x9.box SB'.out.2.2.1, x9.box SB'.out.2.2.2.1, x9.box SB'.out.2.2.2.2.1, x9.box SB'.out.2.2.2.2.2⟩; clear x9))
    all_goals go_wp2
    all_goals go_ret
    all_goals exact ⟨rfl, Z9.out⟩
end Go.Proofs.Ytiekkninnjffpaa
namespace Go.Proofs.Ytiekkninnjffpaa
open Go.ChangeShapes Go.RowKit
set_option linter.unusedSimpArgs false
set_option linter.unusedVariables false

theorem Two.low {lo l : Nat} {W : World} {v u : Value} {xs ss : List Int} (h : Two l W v u xs ss) (hl : lo ≤ l) : Two lo W v u xs ss := by
  obtain ⟨g, k, h1, h2, h3⟩ := h
  exact ⟨g, k, by omega, by omega, h3⟩

/-- The answer of a call that gives a view. -/
def VROk (w : World) (c : Int) (L S : List Int) (o : Int) (e : Ending) (w' : World) : Prop :=
  ∃ (sa sb : Option Addr) (ca cb : Nat), e = .returned (.agg #[.int .i64 c, .slice sa L.length ca, .slice sb S.length cb, .int .i64 o]) ∧ Two w.heap.size w' (.slice sa L.length ca) (.slice sb S.length cb) L S ∧ Bel w w'

theorem chain4 {w W : World} {v0 v1 v2 v3 : Value} (h : Bel w W) : Bel w ((((W.setCell ⟨w.heap.size + 1, 0, none⟩ v0).setCell ⟨w.heap.size + 1, 1, none⟩ v1).setCell ⟨w.heap.size + 1, 2, none⟩ v2).setCell ⟨w.heap.size + 1, 3, none⟩ v3) :=
  (((h.setCell (by show w.heap.size ≤ w.heap.size + 1; omega) _).setCell (by show w.heap.size ≤ w.heap.size + 1; omega) _).setCell (by show w.heap.size ≤ w.heap.size + 1; omega) _).setCell (by show w.heap.size ≤ w.heap.size + 1; omega) _
theorem chain4m (R : Nat) (W : World) (v0 v1 v2 v3 : Value) : Mut R W ((((W.setCell ⟨R, 0, none⟩ v0).setCell ⟨R, 1, none⟩ v1).setCell ⟨R, 2, none⟩ v2).setCell ⟨R, 3, none⟩ v3) :=
  ((((Mut.refl _ _).setCell _ _).setCell _ _).setCell _ _).setCell _ _
theorem set4_0 {W : World} {R : Nat} {v0 v1 v2 v3 u : Value} (h : W.cell? ⟨R, 0, none⟩ = some u) : ((((W.setCell ⟨R, 0, none⟩ v0).setCell ⟨R, 1, none⟩ v1).setCell ⟨R, 2, none⟩ v2).setCell ⟨R, 3, none⟩ v3).cell? ⟨R, 0, none⟩ = some v0 :=
  near (by omega) (set3_0 h)
theorem set4_1 {W : World} {R : Nat} {v0 v1 v2 v3 u : Value} (h : W.cell? ⟨R, 1, none⟩ = some u) : ((((W.setCell ⟨R, 0, none⟩ v0).setCell ⟨R, 1, none⟩ v1).setCell ⟨R, 2, none⟩ v2).setCell ⟨R, 3, none⟩ v3).cell? ⟨R, 1, none⟩ = some v1 :=
  near (by omega) (set3_1 h)
theorem set4_2 {W : World} {R : Nat} {v0 v1 v2 v3 u : Value} (h : W.cell? ⟨R, 2, none⟩ = some u) : ((((W.setCell ⟨R, 0, none⟩ v0).setCell ⟨R, 1, none⟩ v1).setCell ⟨R, 2, none⟩ v2).setCell ⟨R, 3, none⟩ v3).cell? ⟨R, 2, none⟩ = some v2 :=
  near (by omega) (set3_2 h)
theorem set4_3 {W : World} {R : Nat} {v0 v1 v2 v3 u : Value} (h : W.cell? ⟨R, 3, none⟩ = some u) : ((((W.setCell ⟨R, 0, none⟩ v0).setCell ⟨R, 1, none⟩ v1).setCell ⟨R, 2, none⟩ v2).setCell ⟨R, 3, none⟩ v3).cell? ⟨R, 3, none⟩ = some v3 :=
  World.cell?_setCell_same _ _ _ (near (by omega) (near (by omega) (near (by omega) h)))

/-- A refusal. -/
theorem vr_bad {w W : World} {c : Int} {L S : List Int} {o k : Int} (hr : (c, L, S, o) = (k, [], [], 0)) (h : Bel w W) (hs : w.heap.size + 2 ≤ W.heap.size) {v0 v1 v2 v3 : Value} :
    VROk w c L S o (.returned (.agg #[.int .i64 k, .slice none 0 0, .slice none 0 0, .int .i64 0])) ((((W.setCell ⟨w.heap.size + 1, 0, none⟩ v0).setCell ⟨w.heap.size + 1, 1, none⟩ v1).setCell ⟨w.heap.size + 1, 2, none⟩ v2).setCell ⟨w.heap.size + 1, 3, none⟩ v3) := by
  simp only [Prod.mk.injEq] at hr
  obtain ⟨rfl, rfl, rfl, rfl⟩ := hr
  exact ⟨none, none, 0, 0, rfl, Two.nil (Nat.le_trans hs (chain4m _ _ _ _ _ _).size), chain4 h⟩

theorem vr_good {w W A : World} {c : Int} {L S : List Int} {o : Int} {sa sb : Option Addr} {ca cb : Nat} {L' S' : List Int} {o' : Int} (hr : (c, L, S, o) = (0, L', S', o')) (h : Bel w W) (hs : w.heap.size + 2 ≤ A.heap.size) (ht : Two A.heap.size W (.slice sa L'.length ca) (.slice sb S'.length cb) L' S') {v0 v1 v2 v3 : Value} :
    VROk w c L S o (.returned (.agg #[.int .i64 0, .slice sa L'.length ca, .slice sb S'.length cb, .int .i64 o'])) ((((W.setCell ⟨w.heap.size + 1, 0, none⟩ v0).setCell ⟨w.heap.size + 1, 1, none⟩ v1).setCell ⟨w.heap.size + 1, 2, none⟩ v2).setCell ⟨w.heap.size + 1, 3, none⟩ v3) := by
  simp only [Prod.mk.injEq] at hr
  obtain ⟨rfl, rfl, rfl, rfl⟩ := hr
  exact ⟨sa, sb, ca, cb, rfl, (ht.mut (chain4m _ _ _ _ _ _) (by omega)).low (by omega), chain4 h⟩

def brL (xs ss : List Int) (off : Int) (ys : List Int) : Int × List Int × List Int × Int :=
  if ValidV xs ss off then (if Good ys ∧ Strs xs ys then (0, ys, bstr xs ss ys, off) else (6, [], [], 0)) else (12, [], [], 0)

set_option maxRecDepth 100000 in
set_option maxHeartbeats 4000000 in
theorem iBR_any {w : World} {vS vT vP : Value} {xs ss ys : List Int} (hS : Ints w vS xs) (hT : Ints w vT ss) (hP : Ints w vP ys) (off : Int) (lx : xs.length ≤ 1048576) (ls : ss.length ≤ 1048576) (ly : ys.length ≤ 1048576) {c : Int} {L S : List Int} {o : Int} (hr : brL xs ss off ys = (c, L, S, o)) :
    Calls Try.prog 40 #[.agg #[vS, vT, .int .i64 off], vP] w fun e w' => VROk w c L S o e w' := by
  have Hr := hide hr.symm
  clear hr
  have x0 : Ext w ((w.alloc (.cells #[vS, vT, .int .i64 off] 27)).alloc (.cells #[.int .i64 0, .slice none 0 0, .slice none 0 0, .int .i64 0] 43)) := ((Ext.refl w).alloc _ _).alloc _ _
  have n2 := fun j => new_cell (w.alloc (.cells #[vS, vT, .int .i64 off] 27)) #[.int .i64 0, .slice none 0 0, .slice none 0 0, .int .i64 0] 43 (w.heap.size + 1) (by simp) j
  have q0 : ((w.alloc (.cells #[vS, vT, .int .i64 off] 27)).alloc (.cells #[.int .i64 0, .slice none 0 0, .slice none 0 0, .int .i64 0] 43)).cell? ⟨w.heap.size + 1, 0, none⟩ = some (.int .i64 0) := n2 0
  have q1 : ((w.alloc (.cells #[vS, vT, .int .i64 off] 27)).alloc (.cells #[.int .i64 0, .slice none 0 0, .slice none 0 0, .int .i64 0] 43)).cell? ⟨w.heap.size + 1, 1, none⟩ = some (.slice none 0 0) := n2 1
  have q2 : ((w.alloc (.cells #[vS, vT, .int .i64 off] 27)).alloc (.cells #[.int .i64 0, .slice none 0 0, .slice none 0 0, .int .i64 0] 43)).cell? ⟨w.heap.size + 1, 2, none⟩ = some (.slice none 0 0) := n2 2
  have q3 : ((w.alloc (.cells #[vS, vT, .int .i64 off] 27)).alloc (.cells #[.int .i64 0, .slice none 0 0, .slice none 0 0, .int .i64 0] 43)).cell? ⟨w.heap.size + 1, 3, none⟩ = some (.int .i64 0) := n2 3
  have X0 := hide x0
  have HS := hide (hS.ext x0)
  have HT := hide (hT.ext x0)
  have HP := hide (hP.ext x0)
  have sz0 : Hid (w.heap.size + 2 ≤ ((w.alloc (.cells #[vS, vT, .int .i64 off] 27)).alloc (.cells #[.int .i64 0, .slice none 0 0, .slice none 0 0, .int .i64 0] 43)).heap.size) := by show w.heap.size + 2 ≤ ((w.alloc (.cells #[vS, vT, .int .i64 off] 27)).alloc (.cells #[.int .i64 0, .slice none 0 0, .slice none 0 0, .int .i64 0] 43)).heap.size; simp
  obtain ⟨sa, ca, rfl, _⟩ := hS
  obtain ⟨sb, cb, rfl, _⟩ := hT
  obtain ⟨sp, cp, rfl, _⟩ := hP
  clear x0 n2
  go_enter Try.func40, Try.ntmps40
  go_wp2_with fail
  refine (fixView_any HS.out HT.out off lx ls).mono ?_
  rintro e w1 ⟨A, rfl, hA, ⟨a0, a1, a2, a3, a4, a5, a6, a7, a8, a9, rfl⟩, x1⟩
  have y1 : Ext w1 (w1.alloc (.cells #[.int .i64 a0, .int .i64 a1, .int .i64 a2, .int .i64 a3, .int .i64 a4, .int .i64 a5, .int .i64 a6, .int .i64 a7, .int .i64 a8, .int .i64 a9] 64)) := (Ext.refl w1).alloc _ _
  have n1 := fun j => new_cell w1 #[.int .i64 a0, .int .i64 a1, .int .i64 a2, .int .i64 a3, .int .i64 a4, .int .i64 a5, .int .i64 a6, .int .i64 a7, .int .i64 a8, .int .i64 a9] 64 w1.heap.size rfl j
  have f0 : (w1.alloc (.cells #[.int .i64 a0, .int .i64 a1, .int .i64 a2, .int .i64 a3, .int .i64 a4, .int .i64 a5, .int .i64 a6, .int .i64 a7, .int .i64 a8, .int .i64 a9] 64)).cell? ⟨w1.heap.size, 0, none⟩ = some (.int .i64 a0) := n1 0
  have f1 : (w1.alloc (.cells #[.int .i64 a0, .int .i64 a1, .int .i64 a2, .int .i64 a3, .int .i64 a4, .int .i64 a5, .int .i64 a6, .int .i64 a7, .int .i64 a8, .int .i64 a9] 64)).cell? ⟨w1.heap.size, 1, none⟩ = some (.int .i64 a1) := n1 1
  have f2 : (w1.alloc (.cells #[.int .i64 a0, .int .i64 a1, .int .i64 a2, .int .i64 a3, .int .i64 a4, .int .i64 a5, .int .i64 a6, .int .i64 a7, .int .i64 a8, .int .i64 a9] 64)).cell? ⟨w1.heap.size, 2, none⟩ = some (.int .i64 a2) := n1 2
  have f3 : (w1.alloc (.cells #[.int .i64 a0, .int .i64 a1, .int .i64 a2, .int .i64 a3, .int .i64 a4, .int .i64 a5, .int .i64 a6, .int .i64 a7, .int .i64 a8, .int .i64 a9] 64)).cell? ⟨w1.heap.size, 3, none⟩ = some (.int .i64 a3) := n1 3
  have f4 : (w1.alloc (.cells #[.int .i64 a0, .int .i64 a1, .int .i64 a2, .int .i64 a3, .int .i64 a4, .int .i64 a5, .int .i64 a6, .int .i64 a7, .int .i64 a8, .int .i64 a9] 64)).cell? ⟨w1.heap.size, 4, none⟩ = some (.int .i64 a4) := n1 4
  have f5 : (w1.alloc (.cells #[.int .i64 a0, .int .i64 a1, .int .i64 a2, .int .i64 a3, .int .i64 a4, .int .i64 a5, .int .i64 a6, .int .i64 a7, .int .i64 a8, .int .i64 a9] 64)).cell? ⟨w1.heap.size, 5, none⟩ = some (.int .i64 a5) := n1 5
  have f6 : (w1.alloc (.cells #[.int .i64 a0, .int .i64 a1, .int .i64 a2, .int .i64 a3, .int .i64 a4, .int .i64 a5, .int .i64 a6, .int .i64 a7, .int .i64 a8, .int .i64 a9] 64)).cell? ⟨w1.heap.size, 6, none⟩ = some (.int .i64 a6) := n1 6
  have f7 : (w1.alloc (.cells #[.int .i64 a0, .int .i64 a1, .int .i64 a2, .int .i64 a3, .int .i64 a4, .int .i64 a5, .int .i64 a6, .int .i64 a7, .int .i64 a8, .int .i64 a9] 64)).cell? ⟨w1.heap.size, 7, none⟩ = some (.int .i64 a7) := n1 7
  have f8 : (w1.alloc (.cells #[.int .i64 a0, .int .i64 a1, .int .i64 a2, .int .i64 a3, .int .i64 a4, .int .i64 a5, .int .i64 a6, .int .i64 a7, .int .i64 a8, .int .i64 a9] 64)).cell? ⟨w1.heap.size, 8, none⟩ = some (.int .i64 a8) := n1 8
  have f9 : (w1.alloc (.cells #[.int .i64 a0, .int .i64 a1, .int .i64 a2, .int .i64 a3, .int .i64 a4, .int .i64 a5, .int .i64 a6, .int .i64 a7, .int .i64 a8, .int .i64 a9] 64)).cell? ⟨w1.heap.size, 9, none⟩ = some (.int .i64 a9) := n1 9
  have r0 := y1.box (x1.box q0)
  have r1 := y1.box (x1.box q1)
  have r2 := y1.box (x1.box q2)
  have r3 := y1.box (x1.box q3)
  have Y1 := hide ((X0.out.trans x1).trans y1)
  have HP1 := hide ((HP.out.ext x1).ext y1)
  have sz1 : Hid (w.heap.size + 2 ≤ (w1.alloc (.cells #[.int .i64 a0, .int .i64 a1, .int .i64 a2, .int .i64 a3, .int .i64 a4, .int .i64 a5, .int .i64 a6, .int .i64 a7, .int .i64 a8, .int .i64 a9] 64)).heap.size) := Nat.le_trans sz0.out (Below.size (x1.trans y1).bl)
  have rf := fun o => Y1.out.unfrozen (b := w.heap.size + 1) (by omega) o
  have HA := hide hA
  clear hA n1 y1 x1 HS HT q0 q1 q2 q3
  cases hv : (dcValidV xs ss off)
  · have hn := hide (Hr.out.trans (show brL xs ss off ys = (12, [], [], 0) from if_neg (of_decide_eq_false hv)))
    clear hv
    go_wp2
    exact bodyPost_ret (v := .agg #[.int .i64 12, .slice none 0 0, .slice none 0 0, .int .i64 0]) (by simp [results, Try.results40, go_sem, set4_0 r0, set4_1 r1, set4_2 r2, set4_3 r3]) rfl (vr_bad hn.out Y1.out.bl sz1.out)
  have gv : ValidV xs ss off := of_decide_eq_true hv
  have hA := HA.out gv
  have hStr : Hid (∀ W, Calls Try.prog 66 #[.agg #[.int .i64 a0, .int .i64 a1, .int .i64 a2, .int .i64 a3, .int .i64 a4, .int .i64 a5, .int .i64 a6, .int .i64 a7, .int .i64 a8, .int .i64 a9], .agg (shp ys)] W fun e w' => StrOk W xs ss ys off e w') ∨ ¬ Good ys := by
    by_cases hg : Good ys
    · exact Or.inl (fun W => by rw [hA]; exact stretched_any W xs ss ys off gv.1.1 hg.1 gv.2.1)
    · exact Or.inr hg
  have HStr := hide hStr
  have hbr : Hid (brL xs ss off ys = (if Good ys ∧ Strs xs ys then (0, ys, bstr xs ss ys, off) else (6, [], [], 0))) := if_pos gv
  clear hA HA hStr gv
  generalize hvb : (dcValidV xs ss off) = vb at hv
  subst hv
  clear hvb
  go_wp2_with fail
  refine (fixShape_any HP1.out (by omega)).mono ?_
  rintro e w2 ⟨m, b0, b1, b2, b3, rfl, hX, x2⟩
  have y2 : Ext w2 (w2.alloc (.cells #[.int .i64 m, .int .i64 b0, .int .i64 b1, .int .i64 b2, .int .i64 b3] 62)) := (Ext.refl w2).alloc _ _
  have n2 := fun j => new_cell w2 #[.int .i64 m, .int .i64 b0, .int .i64 b1, .int .i64 b2, .int .i64 b3] 62 w2.heap.size rfl j
  have s0 : (w2.alloc (.cells #[.int .i64 m, .int .i64 b0, .int .i64 b1, .int .i64 b2, .int .i64 b3] 62)).cell? ⟨w2.heap.size, 0, none⟩ = some (.int .i64 m) := n2 0
  have s1 : (w2.alloc (.cells #[.int .i64 m, .int .i64 b0, .int .i64 b1, .int .i64 b2, .int .i64 b3] 62)).cell? ⟨w2.heap.size, 1, none⟩ = some (.int .i64 b0) := n2 1
  have s2 : (w2.alloc (.cells #[.int .i64 m, .int .i64 b0, .int .i64 b1, .int .i64 b2, .int .i64 b3] 62)).cell? ⟨w2.heap.size, 2, none⟩ = some (.int .i64 b1) := n2 2
  have s3 : (w2.alloc (.cells #[.int .i64 m, .int .i64 b0, .int .i64 b1, .int .i64 b2, .int .i64 b3] 62)).cell? ⟨w2.heap.size, 3, none⟩ = some (.int .i64 b2) := n2 3
  have s4 : (w2.alloc (.cells #[.int .i64 m, .int .i64 b0, .int .i64 b1, .int .i64 b2, .int .i64 b3] 62)).cell? ⟨w2.heap.size, 4, none⟩ = some (.int .i64 b3) := n2 4
  have g0 := y2.box (x2.box f0)
  have g1 := y2.box (x2.box f1)
  have g2 := y2.box (x2.box f2)
  have g3 := y2.box (x2.box f3)
  have g4 := y2.box (x2.box f4)
  have g5 := y2.box (x2.box f5)
  have g6 := y2.box (x2.box f6)
  have g7 := y2.box (x2.box f7)
  have g8 := y2.box (x2.box f8)
  have g9 := y2.box (x2.box f9)
  have u0 := y2.box (x2.box r0)
  have u1 := y2.box (x2.box r1)
  have u2 := y2.box (x2.box r2)
  have u3 := y2.box (x2.box r3)
  have Y2 := hide ((Y1.out.trans x2).trans y2)
  have sz2 : Hid (w.heap.size + 2 ≤ (w2.alloc (.cells #[.int .i64 m, .int .i64 b0, .int .i64 b1, .int .i64 b2, .int .i64 b3] 62)).heap.size) := Nat.le_trans sz1.out (Below.size (x2.trans y2).bl)
  have uf := fun o => Y2.out.unfrozen (b := w.heap.size + 1) (by omega) o
  have HX := hide hX
  clear hX n2 y2 x2 HP1 f0 f1 f2 f3 f4 f5 f6 f7 f8 f9 r0 r1 r2 r3 rf
  cases hgy : goodB ys
  · have hn := hide (Hr.out.trans (hbr.out.trans (if_neg (fun q => absurd q.1 (of_decide_eq_false hgy)))))
    clear hgy
    go_wp2
    exact bodyPost_ret (v := .agg #[.int .i64 6, .slice none 0 0, .slice none 0 0, .int .i64 0]) (by simp [results, Try.results40, go_sem, set4_0 u0, set4_1 u1, set4_2 u2, set4_3 u3]) rfl (vr_bad hn.out Y2.out.bl sz2.out)
  have gy : Good ys := of_decide_eq_true hgy
  have hS1 : Hid (∀ W, Calls Try.prog 66 #[.agg #[.int .i64 a0, .int .i64 a1, .int .i64 a2, .int .i64 a3, .int .i64 a4, .int .i64 a5, .int .i64 a6, .int .i64 a7, .int .i64 a8, .int .i64 a9], .agg #[.int .i64 m, .int .i64 b0, .int .i64 b1, .int .i64 b2, .int .i64 b3]] W fun e w' => StrOk W xs ss ys off e w') := fun W => by
    have := (HStr.out.resolve_right (fun q => q gy)).out W
    obtain ⟨e0, e1, e2, e3, e4⟩ := HX.out gy
    rw [e0, e1, e2, e3, e4]
    exact this
  have hgy4 := gy.1
  have Hgy := hide gy
  clear HStr HX gy
  go_wp2_with fail
  refine (hS1.out _).mono ?_
  rintro e w3 ⟨B, rfl, hB, ⟨d0, d1, d2, d3, d4, d5, d6, d7, d8, d9, rfl⟩, x3⟩
  have y3 : Ext w3 (w3.alloc (.cells #[.int .i64 d0, .int .i64 d1, .int .i64 d2, .int .i64 d3, .int .i64 d4, .int .i64 d5, .int .i64 d6, .int .i64 d7, .int .i64 d8, .int .i64 d9] 64)) := (Ext.refl w3).alloc _ _
  have n3 := fun j => new_cell w3 #[.int .i64 d0, .int .i64 d1, .int .i64 d2, .int .i64 d3, .int .i64 d4, .int .i64 d5, .int .i64 d6, .int .i64 d7, .int .i64 d8, .int .i64 d9] 64 w3.heap.size rfl j
  have h0 : (w3.alloc (.cells #[.int .i64 d0, .int .i64 d1, .int .i64 d2, .int .i64 d3, .int .i64 d4, .int .i64 d5, .int .i64 d6, .int .i64 d7, .int .i64 d8, .int .i64 d9] 64)).cell? ⟨w3.heap.size, 0, none⟩ = some (.int .i64 d0) := n3 0
  have h1 : (w3.alloc (.cells #[.int .i64 d0, .int .i64 d1, .int .i64 d2, .int .i64 d3, .int .i64 d4, .int .i64 d5, .int .i64 d6, .int .i64 d7, .int .i64 d8, .int .i64 d9] 64)).cell? ⟨w3.heap.size, 1, none⟩ = some (.int .i64 d1) := n3 1
  have h2 : (w3.alloc (.cells #[.int .i64 d0, .int .i64 d1, .int .i64 d2, .int .i64 d3, .int .i64 d4, .int .i64 d5, .int .i64 d6, .int .i64 d7, .int .i64 d8, .int .i64 d9] 64)).cell? ⟨w3.heap.size, 2, none⟩ = some (.int .i64 d2) := n3 2
  have h3 : (w3.alloc (.cells #[.int .i64 d0, .int .i64 d1, .int .i64 d2, .int .i64 d3, .int .i64 d4, .int .i64 d5, .int .i64 d6, .int .i64 d7, .int .i64 d8, .int .i64 d9] 64)).cell? ⟨w3.heap.size, 3, none⟩ = some (.int .i64 d3) := n3 3
  have h4 : (w3.alloc (.cells #[.int .i64 d0, .int .i64 d1, .int .i64 d2, .int .i64 d3, .int .i64 d4, .int .i64 d5, .int .i64 d6, .int .i64 d7, .int .i64 d8, .int .i64 d9] 64)).cell? ⟨w3.heap.size, 4, none⟩ = some (.int .i64 d4) := n3 4
  have h5 : (w3.alloc (.cells #[.int .i64 d0, .int .i64 d1, .int .i64 d2, .int .i64 d3, .int .i64 d4, .int .i64 d5, .int .i64 d6, .int .i64 d7, .int .i64 d8, .int .i64 d9] 64)).cell? ⟨w3.heap.size, 5, none⟩ = some (.int .i64 d5) := n3 5
  have h6 : (w3.alloc (.cells #[.int .i64 d0, .int .i64 d1, .int .i64 d2, .int .i64 d3, .int .i64 d4, .int .i64 d5, .int .i64 d6, .int .i64 d7, .int .i64 d8, .int .i64 d9] 64)).cell? ⟨w3.heap.size, 6, none⟩ = some (.int .i64 d6) := n3 6
  have h7 : (w3.alloc (.cells #[.int .i64 d0, .int .i64 d1, .int .i64 d2, .int .i64 d3, .int .i64 d4, .int .i64 d5, .int .i64 d6, .int .i64 d7, .int .i64 d8, .int .i64 d9] 64)).cell? ⟨w3.heap.size, 7, none⟩ = some (.int .i64 d7) := n3 7
  have h8 : (w3.alloc (.cells #[.int .i64 d0, .int .i64 d1, .int .i64 d2, .int .i64 d3, .int .i64 d4, .int .i64 d5, .int .i64 d6, .int .i64 d7, .int .i64 d8, .int .i64 d9] 64)).cell? ⟨w3.heap.size, 8, none⟩ = some (.int .i64 d8) := n3 8
  have h9 : (w3.alloc (.cells #[.int .i64 d0, .int .i64 d1, .int .i64 d2, .int .i64 d3, .int .i64 d4, .int .i64 d5, .int .i64 d6, .int .i64 d7, .int .i64 d8, .int .i64 d9] 64)).cell? ⟨w3.heap.size, 9, none⟩ = some (.int .i64 d9) := n3 9
  have v0 := y3.box (x3.box u0)
  have v1 := y3.box (x3.box u1)
  have v2 := y3.box (x3.box u2)
  have v3 := y3.box (x3.box u3)
  have Y3 := hide ((Y2.out.trans x3).trans y3)
  have sz3 : Hid (w.heap.size + 2 ≤ (w3.alloc (.cells #[.int .i64 d0, .int .i64 d1, .int .i64 d2, .int .i64 d3, .int .i64 d4, .int .i64 d5, .int .i64 d6, .int .i64 d7, .int .i64 d8, .int .i64 d9] 64)).heap.size) := Nat.le_trans sz2.out (Below.size (x3.trans y3).bl)
  have vf := fun o => Y3.out.unfrozen (b := w.heap.size + 1) (by omega) o
  have HB := hide hB
  clear hB n3 y3 x3 hS1 g0 g1 g2 g3 g4 g5 g6 g7 g8 g9 u0 u1 u2 u3 uf s0 s1 s2 s3 s4
  cases hst : (dcStrs xs ys)
  · have hn := hide (Hr.out.trans (hbr.out.trans (if_neg (fun q => absurd q.2 (of_decide_eq_false hst)))))
    clear hst
    go_wp2
    exact bodyPost_ret (v := .agg #[.int .i64 6, .slice none 0 0, .slice none 0 0, .int .i64 0]) (by simp [results, Try.results40, go_sem, set4_0 v0, set4_1 v1, set4_2 v2, set4_3 v3]) rfl (vr_bad hn.out Y3.out.bl sz3.out)
  have gs : Strs xs ys := of_decide_eq_true hst
  have hV : Hid (∀ W, Calls Try.prog 64 #[.agg #[.int .i64 d0, .int .i64 d1, .int .i64 d2, .int .i64 d3, .int .i64 d4, .int .i64 d5, .int .i64 d6, .int .i64 d7, .int .i64 d8, .int .i64 d9]] W fun e w' => VOk W ys (bstr xs ss ys) off e w') := fun W => by
    rw [HB.out gs]; exact view_any W ys (bstr xs ss ys) off hgy4 (bstr_len _ _ _)
  have hn := hide (Hr.out.trans (hbr.out.trans (if_pos ⟨Hgy.out, gs⟩)))
  clear HB gs
  go_wp2_with fail
  refine (hV.out _).mono ?_
  rintro e w4 ⟨sa4, sb4, ca4, cb4, rfl, hT4, x4⟩
  have z0 := Bel.box x4 v0
  have z1 := Bel.box x4 v1
  have z2 := Bel.box x4 v2
  have z3 := Bel.box x4 v3
  have HT4 := hide hT4
  have HB4 := hide (Bel.tr Y3.out.bl x4)
  have zf : ∀ o, w4.frozen? ⟨w.heap.size + 1, o, none⟩ = false := fun o => (Below.frozen x4 (p := ⟨w.heap.size + 1, o, none⟩) (cell_lt v0)).trans (vf o)
  clear hT4 x4 v0 v1 v2 v3 vf
  generalize hl1 : ys.length = l1
  generalize hl2 : (bstr xs ss ys).length = l2
  have Hl1 := hide hl1
  have Hl2 := hide hl2
  clear hl1 hl2
  go_wp2
  rw [← Hl1.out, ← Hl2.out]
  exact bodyPost_ret (v := .agg #[.int .i64 0, .slice sa4 ys.length ca4, .slice sb4 (bstr xs ss ys).length cb4, .int .i64 off]) (by simp [results, Try.results40, go_sem, set4_0 z0, set4_1 z1, set4_2 z2, set4_3 z3]) rfl (vr_good hn.out HB4.out sz3.out HT4.out)
end Go.Proofs.Ytiekkninnjffpaa
namespace Go.Proofs.Ytiekkninnjffpaa
open Go.ChangeShapes Go.RowKit
set_option linter.unusedSimpArgs false
set_option linter.unusedVariables false

/-- What a list looks like that is owned. -/
theorem own_form {W : World} {base n : Nat} {v : Value} {L : List Int} (h : W.ownsRow base 2 1 v n (L.map (Value.int .i64))) : ∃ sa cap, v = .slice sa n cap := by
  rcases h.2 with ⟨h1, h2⟩ | ⟨g, cap, cur, h1, _⟩
  · exact ⟨none, 0, by rw [h1, h2]⟩
  · exact ⟨_, cap, h1⟩

/-- A view that is built: v at block w.heap.size, the answer behind it, out at B with its two lists. -/
structure BW (w wr : World) (B : Nat) (vS vT : Value) (off : Int) (Ls Ss : List Int) (vA vB : Value) : Prop where
  p0 : wr.cell? ⟨w.heap.size, 0, none⟩ = some vS
  p1 : wr.cell? ⟨w.heap.size, 1, none⟩ = some vT
  r0 : wr.cell? ⟨w.heap.size + 1, 0, none⟩ = some (.int .i64 0)
  r1 : wr.cell? ⟨w.heap.size + 1, 1, none⟩ = some (.slice none 0 0)
  r2 : wr.cell? ⟨w.heap.size + 1, 2, none⟩ = some (.slice none 0 0)
  r3 : wr.cell? ⟨w.heap.size + 1, 3, none⟩ = some (.int .i64 0)
  rf : ∀ o, wr.frozen? ⟨w.heap.size + 1, o, none⟩ = false
  o0 : wr.cell? ⟨B, 0, none⟩ = some vA
  o1 : wr.cell? ⟨B, 1, none⟩ = some vB
  o2 : wr.cell? ⟨B, 2, none⟩ = some (.int .i64 off)
  bf : ∀ o, wr.frozen? ⟨B, o, none⟩ = false
  ownA : wr.ownsRow (B + 1) 2 1 vA Ls.length (Ls.map (Value.int .i64))
  ownB : wr.ownsRow (B + 1) 2 1 vB Ss.length (Ss.map (Value.int .i64))
  dj : vA.ownBlock = none ∨ vA.ownBlock ≠ vB.ownBlock
  bl : Bel w wr
  sz : B + 1 ≤ wr.heap.size
  hB : w.heap.size + 1 < B

/-- Blocks up to B are kept. -/
theorem BW.low {w wr : World} {B : Nat} {vS vT : Value} {off : Int} {Ls Ss : List Int} {vA vB : Value} (h : BW w wr B vS vT off Ls Ss vA vB) {W : World} (hk : ∀ k, k < B + 1 → W.heap[k]? = wr.heap[k]?) :
    (∀ {b o v}, b < B + 1 → wr.cell? ⟨b, o, none⟩ = some v → W.cell? ⟨b, o, none⟩ = some v) ∧ (∀ {b}, b < B + 1 → ∀ o, W.frozen? ⟨b, o, none⟩ = wr.frozen? ⟨b, o, none⟩) :=
  ⟨fun hb hc => (World.cell?_of_block (hk _ hb)).trans hc, fun hb o => World.frozen?_of_block (hk _ hb)⟩

theorem BW.stepA {w wr w3 : World} {B : Nat} {vS vT : Value} {off : Int} {Ls Ss : List Int} {vA vB : Value} (h : BW w wr B vS vT off Ls Ss vA vB) (x : Int) {v3 : Value}
    (hown : w3.ownsRow (B + 1) 2 1 v3 (Ls.length + 1) (Ls.map (Value.int .i64) ++ [.int .i64 x])) (hgrow : (wr.alloc (.cells #[.int .i64 x] 2)).grownBy w3 vA.ownBlock)
    (hat : v3.ownBlock = vA.ownBlock ∨ v3.ownBlock = some (wr.alloc (.cells #[.int .i64 x] 2)).heap.size) : BW w (w3.setCell ⟨B, 0, none⟩ v3) B vS vT off (Ls ++ [x]) Ss v3 vB := by
  have hs := h.sz
  have hB := h.hB
  have hA : ∀ g, vA.ownBlock = some g → B + 1 ≤ g := fun g hg => (h.ownA.lt g hg).1
  have hk : ∀ k, k < B + 1 → w3.heap[k]? = wr.heap[k]? := fun k hk => by
    rw [hgrow.block k (by simp; omega) (by intro e; have := hA k e.symm; omega)]
    exact ((Ext.refl wr).alloc #[.int .i64 x] 2).bl.block k (by omega)
  obtain ⟨cc, ff⟩ := h.low hk
  have m : Mut B w3 (w3.setCell ⟨B, 0, none⟩ v3) := (Mut.refl _ _).setCell _ _
  have h3 : v3.ownBlock ≠ some B := fun e => by
    have := (hown.lt B e).1
    omega
  have hBB : vB.ownBlock ≠ some B := fun e => by
    have := (h.ownB.lt B e).1
    omega
  have hsz := hgrow.size
  simp at hsz
  refine ⟨m.box (by omega) (cc (by omega) h.p0), m.box (by omega) (cc (by omega) h.p1), m.box (by omega) (cc (by omega) h.r0), m.box (by omega) (cc (by omega) h.r1), m.box (by omega) (cc (by omega) h.r2), m.box (by omega) (cc (by omega) h.r3), fun o => (m.fz _).trans ((ff (by omega) o).trans (h.rf o)),
    World.cell?_setCell_same _ _ _ (cc (by omega) h.o0), near (by omega) (cc (by omega) h.o1), near (by omega) (cc (by omega) h.o2), fun o => (m.fz _).trans ((ff (by omega) o).trans (h.bf o)), ?_, ?_, ?_, ?_, ?_, hB⟩
  · have e : (Ls ++ [x]).map (Value.int .i64) = Ls.map (Value.int .i64) ++ [.int .i64 x] := by simp
    rw [e, List.length_append]
    exact ownsRow_setCell_other hown h3 _
  · refine ownsRow_setCell_other ((h.ownB.alloc _).kept hgrow ?_) hBB _
    cases hb : vB.ownBlock with
    | none => exact Or.inl rfl
    | some b =>
      refine Or.inr fun e => ?_
      rcases h.dj with q | q
      · rw [q] at e; cases e
      · exact q (by rw [hb, ← e])
  · rcases hat with q | q
    · rw [q]; exact h.dj
    · refine Or.inr fun e => ?_
      rw [q] at e
      have := (h.ownB.lt _ e.symm).2
      simp at this
      omega
  · exact ((h.bl.alloc (Below.size h.bl) _).grown hgrow (by have := Below.size h.bl; simp; omega) (fun j hj => by have := hA j hj; omega)).setCell (by show w.heap.size ≤ B; omega) _
  · have : w3.heap.size ≤ (w3.setCell ⟨B, 0, none⟩ v3).heap.size := m.size
    omega

theorem BW.stepB {w wr w3 : World} {B : Nat} {vS vT : Value} {off : Int} {Ls Ss : List Int} {vA vB : Value} (h : BW w wr B vS vT off Ls Ss vA vB) (x : Int) {v3 : Value}
    (hown : w3.ownsRow (B + 1) 2 1 v3 (Ss.length + 1) (Ss.map (Value.int .i64) ++ [.int .i64 x])) (hgrow : (wr.alloc (.cells #[.int .i64 x] 2)).grownBy w3 vB.ownBlock)
    (hat : v3.ownBlock = vB.ownBlock ∨ v3.ownBlock = some (wr.alloc (.cells #[.int .i64 x] 2)).heap.size) : BW w (w3.setCell ⟨B, 1, none⟩ v3) B vS vT off Ls (Ss ++ [x]) vA v3 := by
  have hs := h.sz
  have hB := h.hB
  have hA : ∀ g, vB.ownBlock = some g → B + 1 ≤ g := fun g hg => (h.ownB.lt g hg).1
  have hk : ∀ k, k < B + 1 → w3.heap[k]? = wr.heap[k]? := fun k hk => by
    rw [hgrow.block k (by simp; omega) (by intro e; have := hA k e.symm; omega)]
    exact ((Ext.refl wr).alloc #[.int .i64 x] 2).bl.block k (by omega)
  obtain ⟨cc, ff⟩ := h.low hk
  have m : Mut B w3 (w3.setCell ⟨B, 1, none⟩ v3) := (Mut.refl _ _).setCell _ _
  have h3 : v3.ownBlock ≠ some B := fun e => by
    have := (hown.lt B e).1
    omega
  have hBB : vA.ownBlock ≠ some B := fun e => by
    have := (h.ownA.lt B e).1
    omega
  have hsz := hgrow.size
  simp at hsz
  refine ⟨m.box (by omega) (cc (by omega) h.p0), m.box (by omega) (cc (by omega) h.p1), m.box (by omega) (cc (by omega) h.r0), m.box (by omega) (cc (by omega) h.r1), m.box (by omega) (cc (by omega) h.r2), m.box (by omega) (cc (by omega) h.r3), fun o => (m.fz _).trans ((ff (by omega) o).trans (h.rf o)),
    near (by omega) (cc (by omega) h.o0), World.cell?_setCell_same _ _ _ (cc (by omega) h.o1), near (by omega) (cc (by omega) h.o2), fun o => (m.fz _).trans ((ff (by omega) o).trans (h.bf o)), ?_, ?_, ?_, ?_, ?_, hB⟩
  · refine ownsRow_setCell_other ((h.ownA.alloc _).kept hgrow ?_) hBB _
    exact h.dj
  · have e : (Ss ++ [x]).map (Value.int .i64) = Ss.map (Value.int .i64) ++ [.int .i64 x] := by simp
    rw [e, List.length_append]
    exact ownsRow_setCell_other hown h3 _
  · rcases h.dj with d | d
    · exact Or.inl d
    · rcases hat with q | q
      · rw [q]; exact Or.inr d
      · refine Or.inr fun e => ?_
        rw [q] at e
        have := (h.ownA.lt _ e).2
        simp at this
        omega
  · exact ((h.bl.alloc (Below.size h.bl) _).grown hgrow (by have := Below.size h.bl; simp; omega) (fun j hj => by have := hA j hj; omega)).setCell (by show w.heap.size ≤ B; omega) _
  · have : w3.heap.size ≤ (w3.setCell ⟨B, 1, none⟩ v3).heap.size := m.size
    omega

/-- The answer of the specification. -/
def VSOk (w : World) (c : Int) (L S : List Int) (o : Int) (e : Ending) (w' : World) : Prop :=
  ∃ (sa sb : Option Addr) (ca cb : Nat), e = .returned (.agg #[.int .i64 c, .slice sa L.length ca, .slice sb S.length cb, .int .i64 o]) ∧ IntsB w' w.heap.size w'.heap.size (.slice sa L.length ca) L ∧ IntsB w' w.heap.size w'.heap.size (.slice sb S.length cb) S ∧ Bel w w'

/-- The answer of the specification, with what it owns. -/
def VSOw (w : World) (c : Int) (L S : List Int) (o : Int) (e : Ending) (w' : World) : Prop :=
  ∃ (sa sb : Option Addr) (ca cb : Nat), e = .returned (.agg #[.int .i64 c, .slice sa L.length ca, .slice sb S.length cb, .int .i64 o]) ∧ w'.ownsRow w.heap.size 2 1 (.slice sa L.length ca) L.length (L.map (Value.int .i64)) ∧ w'.ownsRow w.heap.size 2 1 (.slice sb S.length cb) S.length (S.map (Value.int .i64)) ∧ ((Value.slice sa L.length ca).ownBlock = none ∨ (Value.slice sa L.length ca).ownBlock ≠ (Value.slice sb S.length cb).ownBlock) ∧ Bel w w'
theorem own_low {W : World} {base lo n : Nat} {v : Value} {L : List Value} (h : W.ownsRow base 2 1 v n L) (hb : lo ≤ base) : W.ownsRow lo 2 1 v n L := by
  refine ⟨h.1, ?_⟩
  rcases h.2 with q | ⟨g, cap, cur, h1, h2, h3⟩
  · exact Or.inl q
  · exact Or.inr ⟨g, cap, cur, h1, by omega, h3⟩
theorem own_chain4 {W : World} {base n R : Nat} {v : Value} {L : List Value} (h : W.ownsRow base 2 1 v n L) (hb : R < base) (v0 v1 v2 v3 : Value) : ((((W.setCell ⟨R, 0, none⟩ v0).setCell ⟨R, 1, none⟩ v1).setCell ⟨R, 2, none⟩ v2).setCell ⟨R, 3, none⟩ v3).ownsRow base 2 1 v n L :=
  ownsRow_setCell_below (ownsRow_setCell_below (ownsRow_setCell_below (ownsRow_setCell_below h (a := ⟨R, 0, none⟩) hb _) (a := ⟨R, 1, none⟩) hb _) (a := ⟨R, 2, none⟩) hb _) (a := ⟨R, 3, none⟩) hb _
theorem vs_bad {w W : World} {c : Int} {L S : List Int} {o k : Int} (hr : (c, L, S, o) = (k, [], [], 0)) (h : Bel w W) {v0 v1 v2 v3 : Value} :
    VSOw w c L S o (.returned (.agg #[.int .i64 k, .slice none 0 0, .slice none 0 0, .int .i64 0])) ((((W.setCell ⟨w.heap.size + 1, 0, none⟩ v0).setCell ⟨w.heap.size + 1, 1, none⟩ v1).setCell ⟨w.heap.size + 1, 2, none⟩ v2).setCell ⟨w.heap.size + 1, 3, none⟩ v3) := by
  simp only [Prod.mk.injEq] at hr
  obtain ⟨rfl, rfl, rfl, rfl⟩ := hr
  exact ⟨none, none, 0, 0, rfl, World.ownsRow_nil _ _ _ _, World.ownsRow_nil _ _ _ _, Or.inl rfl, chain4 h⟩

theorem own_intsB {W : World} {base n lo : Nat} {sa : Option Addr} {cap : Nat} {L : List Int} (h : W.ownsRow base 2 1 (.slice sa n cap) n (L.map (Value.int .i64))) (hb : lo ≤ base) : IntsB W lo W.heap.size (.slice sa n cap) L := by
  have hl : n = L.length := by have := h.1; simp at this; omega
  subst hl
  refine ⟨sa, cap, rfl, ?_⟩
  by_cases e : L = []
  · exact Or.inl e
  rcases h.2 with ⟨h1, h2⟩ | ⟨g, cap2, cur, h1, h2, h3, _⟩
  · exact absurd (List.eq_nil_of_length_eq_zero h2) e
  have hg : sa = some ⟨g, 0, none⟩ := by simp at h1; exact h1.1
  subst hg
  obtain ⟨hrow, _⟩ := row_of_own h
  exact Or.inr ⟨g, 0, rfl, by omega, cell_lt (hrow 0 (List.length_pos_iff.2 e)), hrow⟩

theorem VSOw.old {w W : World} {c : Int} {L S : List Int} {o : Int} {e : Ending} (h : VSOw w c L S o e W) : VSOk w c L S o e W := by
  obtain ⟨sa, sb, ca, cb, he, h1, h2, _, hB⟩ := h
  exact ⟨sa, sb, ca, cb, he, own_intsB h1 (Nat.le_refl _), own_intsB h2 (Nat.le_refl _), hB⟩

theorem vs_good {w wr : World} {B : Nat} {vS vT : Value} {off : Int} {Ls Ss : List Int} {sa sb : Option Addr} {na nb ca cb : Nat} (h : BW w wr B vS vT off Ls Ss (.slice sa na ca) (.slice sb nb cb)) (hna : na = Ls.length) (hnb : nb = Ss.length) {c : Int} {L S : List Int} {o : Int} (hr : (c, L, S, o) = (0, Ls, Ss, off)) {v0 v1 v2 v3 : Value} :
    VSOw w c L S o (.returned (.agg #[.int .i64 0, .slice sa na ca, .slice sb nb cb, .int .i64 off])) ((((wr.setCell ⟨w.heap.size + 1, 0, none⟩ v0).setCell ⟨w.heap.size + 1, 1, none⟩ v1).setCell ⟨w.heap.size + 1, 2, none⟩ v2).setCell ⟨w.heap.size + 1, 3, none⟩ v3) := by
  simp only [Prod.mk.injEq] at hr
  obtain ⟨rfl, rfl, rfl, rfl⟩ := hr
  subst hna
  subst hnb
  have hB := h.hB
  exact ⟨sa, sb, ca, cb, rfl, own_low (own_chain4 h.ownA (by omega) _ _ _ _) (by omega), own_low (own_chain4 h.ownB (by omega) _ _ _ _) (by omega), h.dj, chain4 h.bl⟩

/-- The start. -/
theorem BW.start {w W : World} {vS vT : Value} {off : Int} (hs : w.heap.size + 1 < W.heap.size) (hb : Bel w W) (p0 : W.cell? ⟨w.heap.size, 0, none⟩ = some vS) (p1 : W.cell? ⟨w.heap.size, 1, none⟩ = some vT)
    (r0 : W.cell? ⟨w.heap.size + 1, 0, none⟩ = some (.int .i64 0)) (r1 : W.cell? ⟨w.heap.size + 1, 1, none⟩ = some (.slice none 0 0)) (r2 : W.cell? ⟨w.heap.size + 1, 2, none⟩ = some (.slice none 0 0)) (r3 : W.cell? ⟨w.heap.size + 1, 3, none⟩ = some (.int .i64 0)) (rf : ∀ o, W.frozen? ⟨w.heap.size + 1, o, none⟩ = false) :
    BW w (W.alloc (.cells #[.slice none 0 0, .slice none 0 0, .int .i64 off] 27)) W.heap.size vS vT off [] [] (.slice none 0 0) (.slice none 0 0) := by
  have x : Ext W (W.alloc (.cells #[.slice none 0 0, .slice none 0 0, .int .i64 off] 27)) := (Ext.refl W).alloc _ _
  have n := fun j => new_cell W #[.slice none 0 0, .slice none 0 0, .int .i64 off] 27 W.heap.size rfl j
  exact ⟨x.box p0, x.box p1, x.box r0, x.box r1, x.box r2, x.box r3, fun o => (x.fz _).trans (rf o), n 0, n 1, n 2, fun o => x.unfrozen (Nat.le_refl _) o, World.ownsRow_nil _ _ _ _, World.ownsRow_nil _ _ _ _, Or.inl rfl, Bel.tr hb x.bl, by simp, hs⟩
end Go.Proofs.Ytiekkninnjffpaa
