import Derived.Test.YtiekkninnjffpaaFixV3
import Derived.Test.YtiekkninnjffpaaVRes
import Derived.Deep.AppendLies
namespace Go.Proofs.Ytiekkninnjffpaa
open Go.ChangeShapes Go.RowKit
set_option linter.unusedSimpArgs false
set_option linter.unusedVariables false

/-- append at a step of a region that draws, whether or not something is appended. -/
theorem step_append_at {P : Program} (w : World) {ops : Array Oper} {o : Oper} {a : Act} {K : Act → World → Prop} {Q : Exit → Act → World → Prop} {E : Prop} (hgd : o.guard = none) (s x : Operand) (t : TypeId)
    (ho : o.op = .call { callee := .builtin .append, args := #[s, x], argTypes := #[t, t] })
    (base : Nat) (e : TypeId) (i : TypeInfo) (z : Value) (size bytes : Nat) (ht : P.underlying t = some (.slice e)) (hi : P.info? e = some i) (hz : i.zero = some z)
    (hsize : i.size = size) (hby : i.bytes = bytes) (hzs : z.cells.size = size) (hsz : 0 < size)
    (v : Value) (n : Nat) (xs : List Value) (hs : a.eval s = v) (hown : w.ownsRow base e size v n xs)
    (ad : Addr) (m c : Nat) (news : List Value) (hx : a.eval x = .slice (some ad) m c) (hl : news.length = m * size) (hnews : ∀ j u, news[j]? = some u → w.cell? (ad.add j) = some u) (h1 : ∀ u ∈ news, u.oneCell' = true)
    (h63 : n + m ≤ maxLen) (hbytes : (n + m) * bytes ≤ 140737488355328) (hbase : base ≤ w.heap.size)
    (h : ∀ v' w', w'.ownsRow base e size v' (n + m) (xs ++ news) → w.grownBy w' v.ownBlock → (v'.ownBlock = v.ownBlock ∨ v'.ownBlock = some w.heap.size) → K (a.put o.dst v') w') :
    if Region.wanted o (yielded ops a.tmps) = true then Oper.wp P o a w K Q else E := by
  have hw : Region.wanted o (yielded ops a.tmps) = true := by simp [Region.wanted, hgd]
  rw [if_pos hw]
  obtain ⟨v', w', hr, h2, h3, _, h5⟩ := run_append_own_at (P := P) w base t o.type e i z size bytes ht hi hz hsize hby hzs hsz v n xs hown ad m c news hl hnews h1 h63 hbytes hbase
  unfold Oper.wp execOp
  simp only [ho, resolve, invoke, builtin, Sem.run_bind, Sem.run_pure, Result.andThen_ok, List.map_toArray, List.map_cons, List.map_nil, hs, hx, hr]
  exact h v' w' h2 h3 h5

theorem own_below {w w' : World} {base e size n B : Nat} {v : Value} {xs : List Value} (h : w.ownsRow base e size v n xs) (x : Below B w w') (hb : ∀ g, v.ownBlock = some g → g < B) : w'.ownsRow base e size v n xs := by
  refine ⟨h.1, ?_⟩
  rcases h.2 with h | ⟨g, cap, cur, rfl, h1, h2, h3⟩
  · exact Or.inl h
  · exact Or.inr ⟨g, cap, cur, rfl, h1, by rw [x.block g (hb g rfl)]; exact h2, h3⟩

/-- Two lists of the call's own, each in a block of its own. -/
def Two (lo : Nat) (W : World) (v u : Value) (xs ss : List Int) : Prop :=
  ∃ g h, lo ≤ g ∧ lo ≤ h ∧ g ≠ h ∧ g < W.heap.size ∧ h < W.heap.size ∧ IntsB W g (g + 1) v xs ∧ IntsB W h (h + 1) u ss ∧ FZ W v xs ∧ FZ W u ss

theorem Two.mut {lo R : Nat} {W W' : World} {v u : Value} {xs ss : List Int} (h : Two lo W v u xs ss) (m : Mut R W W') (hR : R < lo) : Two lo W' v u xs ss := by
  obtain ⟨g, k, h1, h2, h3, h4, h5, h6, h7, h8, h9⟩ := h
  have hs : W.heap.size ≤ W'.heap.size := m.size
  have fz : ∀ {v : Value} {L : List Int}, FZ W v L → FZ W' v L := by
    intro v L h
    rcases h with h | ⟨b, off, n, cap, h1, h2, h3⟩
    · exact Or.inl h
    · exact Or.inr ⟨b, off, n, cap, h1, by omega, fun o => (m.fz _).trans (h3 o)⟩
  exact ⟨g, k, h1, h2, h3, by omega, by omega, h6.mut m (by omega), h7.mut m (by omega), fz h8, fz h9⟩

theorem Two.nil {lo : Nat} {W : World} {sa sb : Option Addr} {ca cb : Nat} (h : lo + 2 ≤ W.heap.size) : Two lo W (.slice sa 0 ca) (.slice sb 0 cb) [] [] :=
  ⟨lo, lo + 1, Nat.le_refl _, by omega, by omega, by omega, by omega, ⟨sa, ca, rfl, Or.inl rfl⟩, ⟨sb, cb, rfl, Or.inl rfl⟩, Or.inl rfl, Or.inl rfl⟩

/-- Behind the append. -/
theorem two_of {C D : World} {lo b3 base n cap cb : Nat} {sa sb : Option Addr} {xs ss : List Int} (hx : xs ≠ []) (hs : ss ≠ []) (hO : OwnI C lo sa xs) (hg : ∀ g, sa = some ⟨g, 0, none⟩ → g ≠ b3) (hb : lo ≤ b3) (hbC : b3 < C.heap.size)
    (hown : D.ownsRow base 2 1 (.slice sb ss.length cb) n (ss.map (Value.int .i64))) (hgrow : C.grownBy D (some b3)) (hat : (Value.slice sb ss.length cb).ownBlock = some b3 ∨ (Value.slice sb ss.length cb).ownBlock = some C.heap.size) :
    Two lo D (.slice sa xs.length cap) (.slice sb ss.length cb) xs ss := by
  rcases hO with h | ⟨g, rfl, h1, h2, h3⟩
  · exact absurd h hx
  have hgl : g < C.heap.size := cell_lt (h2 0 (List.length_pos_iff.2 hx))
  have hgb := hg g rfl
  have hl : n = ss.length := by have := hown.1; simp at this; omega
  have hb1 : D.heap[g]? = C.heap[g]? := hgrow.block g hgl (by intro e; exact hgb (by simpa using e))
  have hsz := hgrow.size
  rcases hown.2 with ⟨e1, e2⟩ | ⟨h, cap2, cur, e1, e2, e3, _⟩
  · exact absurd (List.eq_nil_of_length_eq_zero (by omega)) hs
  have hh : sb = some ⟨h, 0, none⟩ := by simp at e1; exact e1.1
  subst hh
  have hhd : h < D.heap.size := by
    rcases Nat.lt_or_ge h D.heap.size with q | q
    · exact q
    · rw [Array.getElem?_eq_none q] at e3; cases e3
  have hne : g ≠ h := by
    rcases hat with q | q
    · have : h = b3 := by simpa [Value.ownBlock] using q
      omega
    · have : h = C.heap.size := by simpa [Value.ownBlock] using q
      omega
  have hlh : lo ≤ h := by
    rcases hat with q | q
    · have : h = b3 := by simpa [Value.ownBlock] using q
      omega
    · have : h = C.heap.size := by simpa [Value.ownBlock] using q
      omega
  subst hl
  obtain ⟨hrow, _⟩ := row_of_own hown
  have hfr := fun o => hown.frozenAt o
  refine ⟨g, h, h1, hlh, hne, by omega, hhd, ⟨_, cap, rfl, Or.inr ⟨g, 0, rfl, Nat.le_refl _, by omega, fun j hj => ?_⟩⟩, ⟨_, cb, rfl, Or.inr ⟨h, 0, rfl, Nat.le_refl _, by omega, hrow⟩⟩, Or.inr ⟨g, 0, _, cap, rfl, by omega, fun o => ?_⟩, Or.inr ⟨h, 0, _, cb, rfl, hhd, hfr⟩⟩
  · exact (World.cell?_of_block hb1).trans (h2 j hj)
  · exact (World.frozen?_of_block hb1).trans (h3 o)

/-- The world of 'view': f at block w.heap.size, the answer behind it. -/
structure FR (w W : World) (n a0 a1 a2 a3 b0 b1 b2 b3 off : Int) : Prop where
  c0 : W.cell? ⟨w.heap.size, 0, none⟩ = some (.int .i64 n)
  c1 : W.cell? ⟨w.heap.size, 1, none⟩ = some (.int .i64 a0)
  c2 : W.cell? ⟨w.heap.size, 2, none⟩ = some (.int .i64 a1)
  c3 : W.cell? ⟨w.heap.size, 3, none⟩ = some (.int .i64 a2)
  c4 : W.cell? ⟨w.heap.size, 4, none⟩ = some (.int .i64 a3)
  c5 : W.cell? ⟨w.heap.size, 5, none⟩ = some (.int .i64 b0)
  c6 : W.cell? ⟨w.heap.size, 6, none⟩ = some (.int .i64 b1)
  c7 : W.cell? ⟨w.heap.size, 7, none⟩ = some (.int .i64 b2)
  c8 : W.cell? ⟨w.heap.size, 8, none⟩ = some (.int .i64 b3)
  c9 : W.cell? ⟨w.heap.size, 9, none⟩ = some (.int .i64 off)
  r0 : W.cell? ⟨w.heap.size + 1, 0, none⟩ = some (.slice none 0 0)
  r1 : W.cell? ⟨w.heap.size + 1, 1, none⟩ = some (.slice none 0 0)
  r2 : W.cell? ⟨w.heap.size + 1, 2, none⟩ = some (.int .i64 0)
  rf : ∀ o, W.frozen? ⟨w.heap.size + 1, o, none⟩ = false
  sz : w.heap.size + 2 ≤ W.heap.size
  bl : Bel w W

/-- Cells and freezing of what lies below are kept. -/
theorem FR.by {w W W' : World} {n a0 a1 a2 a3 b0 b1 b2 b3 off : Int} (h : FR w W n a0 a1 a2 a3 b0 b1 b2 b3 off) (hk : ∀ k, k < w.heap.size + 2 → W'.heap[k]? = W.heap[k]?) (hs : W.heap.size ≤ W'.heap.size) (hb : Bel w W') : FR w W' n a0 a1 a2 a3 b0 b1 b2 b3 off := by
  have e : ∀ {b o v}, b < w.heap.size + 2 → W.cell? ⟨b, o, none⟩ = some v → W'.cell? ⟨b, o, none⟩ = some v := fun hb hc => (World.cell?_of_block (hk _ hb)).trans hc
  exact ⟨e (by omega) h.c0, e (by omega) h.c1, e (by omega) h.c2, e (by omega) h.c3, e (by omega) h.c4, e (by omega) h.c5, e (by omega) h.c6, e (by omega) h.c7, e (by omega) h.c8, e (by omega) h.c9, e (by omega) h.r0, e (by omega) h.r1, e (by omega) h.r2, fun o => (World.frozen?_of_block (hk _ (by show w.heap.size + 1 < _; omega))).trans (h.rf o), Nat.le_trans h.sz hs, hb⟩
theorem FR.keep {w W W' : World} {n a0 a1 a2 a3 b0 b1 b2 b3 off : Int} (h : FR w W n a0 a1 a2 a3 b0 b1 b2 b3 off) (x : Bel W W') : FR w W' n a0 a1 a2 a3 b0 b1 b2 b3 off :=
  h.by (fun k hk => x.block k (by have := h.sz; omega)) x.size (Bel.tr h.bl x)
theorem FR.alloc {w W : World} {n a0 a1 a2 a3 b0 b1 b2 b3 off : Int} (h : FR w W n a0 a1 a2 a3 b0 b1 b2 b3 off) (cs : Array Value) (t : TypeId) : FR w (W.alloc (.cells cs t)) n a0 a1 a2 a3 b0 b1 b2 b3 off :=
  h.keep ((Ext.refl W).alloc cs t).bl
theorem FR.grown {w W W' : World} {b : Nat} {n a0 a1 a2 a3 b0 b1 b2 b3 off : Int} (h : FR w W n a0 a1 a2 a3 b0 b1 b2 b3 off) (x : W.grownBy W' (some b)) (hb : w.heap.size + 2 ≤ b) : FR w W' n a0 a1 a2 a3 b0 b1 b2 b3 off :=
  h.by (fun k hk => x.block k (by have := h.sz; omega) (by intro e; have : k = b := by simpa using e
                                                           omega)) x.size (Below.grown h.bl x (Below.size h.bl) (fun j hj => by have : b = j := by simpa using hj
                                                                                                                                omega))

/-- The strides to be appended. -/
theorem FR.news {w W : World} {n a0 a1 a2 a3 b0 b1 b2 b3 off : Int} (h : FR w W n a0 a1 a2 a3 b0 b1 b2 b3 off) {ss : List Int} (hl : ss.length ≤ 4) (e0 : ss.getD 0 0 = b0) (e1 : ss.getD 1 0 = b1) (e2 : ss.getD 2 0 = b2) (e3 : ss.getD 3 0 = b3) :
    ∀ j u, (ss.map (Value.int .i64))[j]? = some u → W.cell? ((⟨w.heap.size, 5, none⟩ : Addr).add j) = some u := fun j u hu => by
  have hj : j < ss.length := by
    have := (List.getElem?_eq_some_iff.1 hu).1
    simpa using this
  have e : ss[j]? = some (ss.getD j 0) := by simp [List.getD_eq_getElem?_getD, hj]
  rw [List.getElem?_map, e] at hu
  simp only [Option.map_some, Option.some.injEq] at hu
  subst hu
  rw [Addr.add_lit]
  obtain rfl | rfl | rfl | rfl : j = 0 ∨ j = 1 ∨ j = 2 ∨ j = 3 := by omega
  · rw [e0]; exact h.c5
  · rw [e1]; exact h.c6
  · rw [e2]; exact h.c7
  · rw [e3]; exact h.c8

def VOk (w : World) (xs ss : List Int) (off : Int) (e : Ending) (w' : World) : Prop :=
  ∃ (sa sb : Option Addr) (ca cb : Nat), e = .returned (.agg #[.slice sa xs.length ca, .slice sb ss.length cb, .int .i64 off]) ∧ Two w.heap.size w' (.slice sa xs.length ca) (.slice sb ss.length cb) xs ss ∧ Bel w w'

theorem view_done {w W : World} {n a0 a1 a2 a3 b0 b1 b2 b3 off : Int} (h : FR w W n a0 a1 a2 a3 b0 b1 b2 b3 off) {xs ss : List Int} {sa sb : Option Addr} {ca cb : Nat}
    (ht : (xs = [] ∧ ss = []) ∨ Two (w.heap.size + 2) W (.slice sa xs.length ca) (.slice sb ss.length cb) xs ss) :
    VOk w xs ss off (.returned (.agg #[.slice sa xs.length ca, .slice sb ss.length cb, .int .i64 off])) (((W.setCell ⟨w.heap.size + 1, 0, none⟩ (.slice sa xs.length ca)).setCell ⟨w.heap.size + 1, 1, none⟩ (.slice sb ss.length cb)).setCell ⟨w.heap.size + 1, 2, none⟩ (.int .i64 off)) := by
  have m : Mut (w.heap.size + 1) W (((W.setCell ⟨w.heap.size + 1, 0, none⟩ (.slice sa xs.length ca)).setCell ⟨w.heap.size + 1, 1, none⟩ (.slice sb ss.length cb)).setCell ⟨w.heap.size + 1, 2, none⟩ (.int .i64 off)) := (((Mut.refl _ _).setCell _ _).setCell _ _).setCell _ _
  refine ⟨sa, sb, ca, cb, rfl, ?_, ((h.bl.setCell (by show w.heap.size ≤ w.heap.size + 1; omega) _).setCell (by show w.heap.size ≤ w.heap.size + 1; omega) _).setCell (by show w.heap.size ≤ w.heap.size + 1; omega) _⟩
  rcases ht with ⟨rfl, rfl⟩ | ht
  · exact Two.nil (Nat.le_trans h.sz m.size)
  · obtain ⟨g, k, h1, h2, h3⟩ := ht.mut m (by omega)
    exact ⟨g, k, by omega, by omega, h3⟩
end Go.Proofs.Ytiekkninnjffpaa
