import Derived.Test.YtanbgpmbccianaaM5
import Derived.Test.YtanbgpmbccianaaM7
namespace Go.Proofs.Ytanbgpmbccianaa
open Go.ChangeShapes Go.RowKit
set_option linter.unusedSimpArgs false
set_option linter.unusedVariables false

def takenL (f step : Int) (k : Nat) : List Int := (List.range k).map fun (j : Nat) => f + (j : Int) * step
theorem takenL_len (f step : Int) (k : Nat) : (takenL f step k).length = k := by simp [takenL]
theorem takenL_succ (f step : Int) (k : Nat) : takenL f step (k + 1) = takenL f step k ++ [f + (k : Int) * step] := by simp [takenL, List.range_succ]
def KRel (w1 : World) (f step C : Int) (o i : Value) (wr : World) : Prop := ∃ k : Nat, i = .int .i64 (f + (k : Int) * step) ∧ (k : Int) ≤ C ∧ (∃ s c, o = .slice s k c) ∧ CL w1 wr (takenL f step k) o
theorem krel_step {w1 w3 : World} {f step C I : Int} {k l c3 : Nat} {s3 : Option Addr} {T : List Int} (hl : l = k) (hT : takenL f step k = T) (hI : f + (k : Int) * step = I) (hk : (k : Int) < C) (h : CL w1 w3 (T ++ [I]) (.slice s3 (l + 1) c3)) : KRel w1 f step C (.slice s3 (l + 1) c3) (.int .i64 (I + step)) w3 := by
  subst hl
  refine ⟨l + 1, ?_, by omega, ⟨s3, c3, rfl⟩, ?_⟩
  · rw [← hI]
    congr 1
    rw [Int.natCast_add, Int.add_mul]
    omega
  · rw [takenL_succ, hT, hI]; exact h

/-- A view that was copied: v at w.heap.size, the answer behind it, out at B, its lists at g and h. -/
structure QW (w W : World) (B g h : Nat) (vS vT : Value) (off : Int) (lx ls cg ch : Nat) (X Y : List Int) (O : Int) : Prop where
  p0 : W.cell? ⟨w.heap.size, 0, none⟩ = some vS
  p1 : W.cell? ⟨w.heap.size, 1, none⟩ = some vT
  p2 : W.cell? ⟨w.heap.size, 2, none⟩ = some (.int .i64 off)
  r0 : W.cell? ⟨w.heap.size + 1, 0, none⟩ = some (.int .i64 0)
  r1 : W.cell? ⟨w.heap.size + 1, 1, none⟩ = some (.slice none 0 0)
  r2 : W.cell? ⟨w.heap.size + 1, 2, none⟩ = some (.slice none 0 0)
  r3 : W.cell? ⟨w.heap.size + 1, 3, none⟩ = some (.int .i64 0)
  rf : ∀ o, W.frozen? ⟨w.heap.size + 1, o, none⟩ = false
  o0 : W.cell? ⟨B, 0, none⟩ = some (.slice (some ⟨g, 0, none⟩) lx cg)
  o1 : W.cell? ⟨B, 1, none⟩ = some (.slice (some ⟨h, 0, none⟩) ls ch)
  o2 : W.cell? ⟨B, 2, none⟩ = some (.int .i64 O)
  bf : ∀ o, W.frozen? ⟨B, o, none⟩ = false
  rg : Row W g 0 X
  rh : Row W h 0 Y
  gf : ∀ o, W.frozen? ⟨g, o, none⟩ = false
  hf : ∀ o, W.frozen? ⟨h, o, none⟩ = false
  bl : Bel w W
  h1 : w.heap.size + 1 < g
  h2 : g < h
  h3 : h < B
  sz : B < W.heap.size
  pg : Pln W g lx cg
  ph : Pln W h ls ch
theorem QW.start {w w1 w5 : World} {g h : Nat} {vS vT : Value} {off : Int} {lx ls cg ch : Nat} {X Y : List Int} (x : Bel w1 w5) (b1 : Bel w w1) (s1 : w.heap.size + 1 < w1.heap.size)
    (p0 : w1.cell? ⟨w.heap.size, 0, none⟩ = some vS) (p1 : w1.cell? ⟨w.heap.size, 1, none⟩ = some vT) (p2 : w1.cell? ⟨w.heap.size, 2, none⟩ = some (.int .i64 off))
    (r0 : w1.cell? ⟨w.heap.size + 1, 0, none⟩ = some (.int .i64 0)) (r1 : w1.cell? ⟨w.heap.size + 1, 1, none⟩ = some (.slice none 0 0)) (r2 : w1.cell? ⟨w.heap.size + 1, 2, none⟩ = some (.slice none 0 0)) (r3 : w1.cell? ⟨w.heap.size + 1, 3, none⟩ = some (.int .i64 0)) (rf : ∀ o, w1.frozen? ⟨w.heap.size + 1, o, none⟩ = false)
    (hg : w1.heap.size ≤ g) (hgh : g < h) (hh : h < w5.heap.size) (rg : Row w5 g 0 X) (rh : Row w5 h 0 Y) (gf : ∀ o, w5.frozen? ⟨g, o, none⟩ = false) (hf : ∀ o, w5.frozen? ⟨h, o, none⟩ = false) (pg : Pln w5 g lx cg) (ph : Pln w5 h ls ch) :
    QW w (w5.alloc (.cells #[.slice (some ⟨g, 0, none⟩) lx cg, .slice (some ⟨h, 0, none⟩) ls ch, .int .i64 off] 25)) w5.heap.size g h vS vT off lx ls cg ch X Y off := by
  have y : Ext w5 (w5.alloc (.cells #[.slice (some ⟨g, 0, none⟩) lx cg, .slice (some ⟨h, 0, none⟩) ls ch, .int .i64 off] 25)) := (Ext.refl w5).alloc _ _
  have n := fun j => new_cell w5 #[.slice (some ⟨g, 0, none⟩) lx cg, .slice (some ⟨h, 0, none⟩) ls ch, .int .i64 off] 25 w5.heap.size rfl j
  exact ⟨y.box (x.box p0), y.box (x.box p1), y.box (x.box p2), y.box (x.box r0), y.box (x.box r1), y.box (x.box r2), y.box (x.box r3), fun o => (y.fz _).trans ((Below.frozen x (p := ⟨w.heap.size + 1, o, none⟩) s1).trans (rf o)), n 0, n 1, n 2, fun o => y.unfrozen (Nat.le_refl _) o, fun j hj => y.box (rg j hj), fun j hj => y.box (rh j hj), fun o => (y.fz _).trans (gf o), fun o => (y.fz _).trans (hf o), Bel.tr (Bel.tr b1 x) y.bl, by omega, hgh, hh, by simp, pg.bel y.bl, ph.bel y.bl⟩
theorem QW.keep {w W W' : World} {B g h : Nat} {vS vT : Value} {off : Int} {lx ls cg ch : Nat} {X Y : List Int} {O : Int} (q : QW w W B g h vS vT off lx ls cg ch X Y O) (x : Bel W W') : QW w W' B g h vS vT off lx ls cg ch X Y O := by
  have a := q.h1; have b := q.h2; have c := q.h3; have d := q.sz
  have fz : ∀ {b : Nat}, b < W.heap.size → ∀ o, W'.frozen? ⟨b, o, none⟩ = W.frozen? ⟨b, o, none⟩ := fun hb o => Below.frozen x (p := ⟨_, o, none⟩) hb
  exact ⟨x.box q.p0, x.box q.p1, x.box q.p2, x.box q.r0, x.box q.r1, x.box q.r2, x.box q.r3, fun o => (fz (by omega) o).trans (q.rf o), x.box q.o0, x.box q.o1, x.box q.o2, fun o => (fz (by omega) o).trans (q.bf o), fun j hj => x.box (q.rg j hj), fun j hj => x.box (q.rh j hj), fun o => (fz (by omega) o).trans (q.gf o), fun o => (fz (by omega) o).trans (q.hf o), Bel.tr q.bl x, a, b, c, Nat.lt_of_lt_of_le d (Below.size x), q.pg.bel x, q.ph.bel x⟩
theorem QW.mut {w W W' : World} {B g h R : Nat} {vS vT : Value} {off : Int} {lx ls cg ch : Nat} {X Y X' Y' : List Int} {O O' : Int} (q : QW w W B g h vS vT off lx ls cg ch X Y O) (m : Mut R W W') (hR : R = g ∨ R = h ∨ R = B)
    (ho0 : W'.cell? ⟨B, 0, none⟩ = some (.slice (some ⟨g, 0, none⟩) lx cg)) (ho1 : W'.cell? ⟨B, 1, none⟩ = some (.slice (some ⟨h, 0, none⟩) ls ch)) (ho2 : W'.cell? ⟨B, 2, none⟩ = some (.int .i64 O')) (hg : Row W' g 0 X') (hh : Row W' h 0 Y') (hb : Bel w W') (pg : Pln W' g lx cg) (ph : Pln W' h ls ch) :
    QW w W' B g h vS vT off lx ls cg ch X' Y' O' := by
  have a := q.h1; have b := q.h2; have c := q.h3; have d := q.sz
  exact ⟨m.box (by omega) q.p0, m.box (by omega) q.p1, m.box (by omega) q.p2, m.box (by omega) q.r0, m.box (by omega) q.r1, m.box (by omega) q.r2, m.box (by omega) q.r3, fun o => (m.fz _).trans (q.rf o), ho0, ho1, ho2, fun o => (m.fz _).trans (q.bf o), hg, hh, fun o => (m.fz _).trans (q.gf o), fun o => (m.fz _).trans (q.hf o), hb, a, b, c, Nat.lt_of_lt_of_le d m.size, pg, ph⟩
theorem QW.setG {w W : World} {B g h : Nat} {vS vT : Value} {off : Int} {lx ls cg ch : Nat} {X Y : List Int} {O : Int} (q : QW w W B g h vS vT off lx ls cg ch X Y O) (a : Nat) (ha : a < X.length) (x : Int) : QW w (W.setCell ⟨g, a, none⟩ (.int .i64 x)) B g h vS vT off lx ls cg ch (X.set a x) Y O := by
  have e1 := q.h1; have e2 := q.h2; have e3 := q.h3
  have m : Mut g W (W.setCell ⟨g, a, none⟩ (.int .i64 x)) := (Mut.refl _ _).setCell _ _
  have st := q.rg.set (k := a) ha x
  rw [Nat.zero_add] at st
  exact q.mut m (Or.inl rfl) (m.box (by omega) q.o0) (m.box (by omega) q.o1) (m.box (by omega) q.o2) st (q.rh.mut m (by omega)) (q.bl.setCell (by show w.heap.size ≤ g; omega) _) (q.pg.set _ _) (q.ph.mut m (by omega))
theorem QW.setH {w W : World} {B g h : Nat} {vS vT : Value} {off : Int} {lx ls cg ch : Nat} {X Y : List Int} {O : Int} (q : QW w W B g h vS vT off lx ls cg ch X Y O) (a : Nat) (ha : a < Y.length) (x : Int) : QW w (W.setCell ⟨h, a, none⟩ (.int .i64 x)) B g h vS vT off lx ls cg ch X (Y.set a x) O := by
  have e1 := q.h1; have e2 := q.h2; have e3 := q.h3
  have m : Mut h W (W.setCell ⟨h, a, none⟩ (.int .i64 x)) := (Mut.refl _ _).setCell _ _
  have st := q.rh.set (k := a) ha x
  rw [Nat.zero_add] at st
  exact q.mut m (Or.inr (Or.inl rfl)) (m.box (by omega) q.o0) (m.box (by omega) q.o1) (m.box (by omega) q.o2) (q.rg.mut m (by omega)) st (q.bl.setCell (by show w.heap.size ≤ h; omega) _) (q.pg.mut m (by omega)) (q.ph.set _ _)
theorem QW.setO {w W : World} {B g h : Nat} {vS vT : Value} {off : Int} {lx ls cg ch : Nat} {X Y : List Int} {O : Int} (q : QW w W B g h vS vT off lx ls cg ch X Y O) (x : Int) : QW w (W.setCell ⟨B, 2, none⟩ (.int .i64 x)) B g h vS vT off lx ls cg ch X Y x := by
  have e1 := q.h1; have e2 := q.h2; have e3 := q.h3
  have m : Mut B W (W.setCell ⟨B, 2, none⟩ (.int .i64 x)) := (Mut.refl _ _).setCell _ _
  exact q.mut m (Or.inr (Or.inr rfl)) (near (by omega) q.o0) (near (by omega) q.o1) (World.cell?_setCell_same _ _ _ q.o2) (q.rg.mut m (by omega)) (q.rh.mut m (by omega)) (q.bl.setCell (by show w.heap.size ≤ B; omega) _) (q.pg.mut m (by omega)) (q.ph.mut m (by omega))
/-- The answer. -/
theorem QW.done {w W : World} {B g h : Nat} {vS vT : Value} {off : Int} {lx ls cg ch : Nat} {X Y : List Int} {O : Int} (q : QW w W B g h vS vT off lx ls cg ch X Y O) (hx : lx = X.length) (hy : ls = Y.length) {L S : List Int} {o : Int} (eL : L = X) (eS : S = Y) (eo : o = O) {v0 v1 v2 v3 : Value} :
    VSOw w 0 L S o (.returned (.agg #[.int .i64 0, .slice (some ⟨g, 0, none⟩) lx cg, .slice (some ⟨h, 0, none⟩) ls ch, .int .i64 O])) ((((W.setCell ⟨w.heap.size + 1, 0, none⟩ v0).setCell ⟨w.heap.size + 1, 1, none⟩ v1).setCell ⟨w.heap.size + 1, 2, none⟩ v2).setCell ⟨w.heap.size + 1, 3, none⟩ v3) := by
  subst eL; subst eS; subst eo; subst hx; subst hy
  have e1 := q.h1; have e2 := q.h2; have e3 := q.h3; have e4 := q.sz
  have m := chain4m (w.heap.size + 1) W v0 v1 v2 v3
  have hs := m.size
  exact ⟨_, _, cg, ch, rfl, own_mk (q.rg.mut m (by omega)) (q.pg.mut m (by omega)) (by omega), own_mk (q.rh.mut m (by omega)) (q.ph.mut m (by omega)) (by omega), Or.inr (by simp [Value.ownBlock]; omega), chain4 q.bl⟩

theorem cl_first {w1 wr : World} {f step : Int} {k cc : Nat} {s : Option Addr} (h : CL w1 wr (takenL f step k) (.slice s k cc)) : 0 < k → ∃ tb, s = some ⟨tb, 0, none⟩ ∧ wr.cell? ⟨tb, 0, none⟩ = some (.int .i64 f) := fun hk => by
  obtain ⟨sb, cb, hv, ho⟩ := own_of (w := w1) (Nat.le_refl _) h.own
  obtain ⟨g, e1, _, e2, _⟩ := own_get ho (by rw [takenL_len]; exact hk)
  simp at hv
  refine ⟨g, by rw [hv.1, e1], ?_⟩
  have := e2 0 (by rw [takenL_len]; exact hk)
  rw [Nat.zero_add] at this
  rw [this]
  simp [takenL, List.getD_eq_getElem?_getD, hk]
theorem prod_set_aux (xs : List Int) (a : Nat) (c : Int) (ha : a < xs.length) (hx : ∀ j, j < xs.length → 0 ≤ xs.getD j 0) (h0 : 0 ≤ c) (h1 : c ≤ xs.getD a 0) : ∀ k, k ≤ xs.length → 0 ≤ prod ((xs.set a c).take k) ∧ prod ((xs.set a c).take k) ≤ prod (xs.take k)
  | 0, _ => by simp [prod]
  | k + 1, hk => by
    have ih := prod_set_aux xs a c ha hx h0 h1 k (by omega)
    rw [prod_take xs k (by omega), prod_take (xs.set a c) k (by rw [List.length_set]; omega), set_getD xs a c ha k]
    have hk0 := hx k (by omega)
    by_cases e : a = k
    · subst e
      rw [if_pos rfl]
      exact ⟨Int.mul_nonneg ih.1 h0, Int.mul_le_mul ih.2 h1 h0 (Int.le_trans ih.1 ih.2)⟩
    · rw [if_neg e]
      exact ⟨Int.mul_nonneg ih.1 hk0, Int.mul_le_mul_of_nonneg_right ih.2 hk0⟩
theorem prod_set_le (xs : List Int) (a : Nat) (c : Int) (ha : a < xs.length) (hx : ∀ j, j < xs.length → 0 ≤ xs.getD j 0) (h0 : 0 ≤ c) (h1 : c ≤ xs.getD a 0) : prod (xs.set a c) ≤ prod xs := by
  have := (prod_set_aux xs a c ha hx h0 h1 xs.length (Nat.le_refl _)).2
  rw [List.take_length, List.take_of_length_le (by simp)] at this
  exact this
theorem prod_zero_aux (ys : List Int) (a : Nat) (h0 : ys.getD a 0 = 0) : ∀ k, a < k → k ≤ ys.length → prod (ys.take k) = 0
  | 0, h, _ => absurd h (Nat.not_lt_zero _)
  | k + 1, h, hk => by
    rw [prod_take ys k (by omega)]
    by_cases e : a = k
    · subst e; rw [h0]; simp
    · rw [prod_zero_aux ys a h0 k (by omega) (by omega)]; simp
theorem prod_set_zero (xs : List Int) (a : Nat) (c : Int) (ha : a < xs.length) (hc : c = 0) : prod (xs.set a c) = 0 := by
  have := prod_zero_aux (xs.set a c) a (by rw [set_getD xs a c ha a, if_pos rfl]; exact hc) xs.length ha (by simp)
  rw [List.take_of_length_le (by simp)] at this
  exact this
theorem QW.of_eq {w W W' : World} {B g h : Nat} {vS vT : Value} {off : Int} {lx ls cg ch : Nat} {X Y : List Int} {O : Int} (q : QW w W B g h vS vT off lx ls cg ch X Y O) (e : W = W') : QW w W' B g h vS vT off lx ls cg ch X Y O := e ▸ q

set_option maxRecDepth 100000 in
set_option maxHeartbeats 4000000 in
theorem sSL_good {w : World} {vS vT : Value} {xs ss : List Int} (hS : Ints w vS xs) (hT : Ints w vT ss) (off start stop step : Int) (ax : Nat) (lx : xs.length ≤ 1048576) (ls : ss.length ≤ 1048576) (gv : ValidV xs ss off) (haxl : ax < xs.length) (hs0 : step ≠ 0)
    (o1 : -1000000 ≤ start ∧ start ≤ 1000000) (o2 : -1000000 ≤ stop ∧ stop ≤ 1000000) (o3 : -1000000 ≤ step ∧ step ≤ 1000000) :
    Calls Try.prog 46 #[.agg #[vS, vT, .int .i64 off], .int .i64 ax, .int .i64 start, .int .i64 stop, .int .i64 step] w fun e w' => VSOw w 0 (xs.set ax (slC xs ax start stop step)) (slS xs ss ax (slC xs ax start stop step) step) (slO xs ss ax (slC xs ax start stop step) (slF xs ax start step) off) e w' := by
  obtain ⟨i0, hi0, hz0, hz1, hz2⟩ := info_parts info2
  have x0 : Ext w ((w.alloc (.cells #[vS, vT, .int .i64 off] 25)).alloc (.cells #[.int .i64 0, .slice none 0 0, .slice none 0 0, .int .i64 0] 29)) := ((Ext.refl w).alloc _ _).alloc _ _
  have y0 : Ext (w.alloc (.cells #[vS, vT, .int .i64 off] 25)) ((w.alloc (.cells #[vS, vT, .int .i64 off] 25)).alloc (.cells #[.int .i64 0, .slice none 0 0, .slice none 0 0, .int .i64 0] 29)) := (Ext.refl _).alloc _ _
  have n1 := fun j => new_cell w #[vS, vT, .int .i64 off] 25 w.heap.size rfl j
  have n2 := fun j => new_cell (w.alloc (.cells #[vS, vT, .int .i64 off] 25)) #[.int .i64 0, .slice none 0 0, .slice none 0 0, .int .i64 0] 29 (w.heap.size + 1) (by simp) j
  have k0 : ((w.alloc (.cells #[vS, vT, .int .i64 off] 25)).alloc (.cells #[.int .i64 0, .slice none 0 0, .slice none 0 0, .int .i64 0] 29)).cell? ⟨w.heap.size, 0, none⟩ = some vS := y0.box (n1 0)
  have k1 : ((w.alloc (.cells #[vS, vT, .int .i64 off] 25)).alloc (.cells #[.int .i64 0, .slice none 0 0, .slice none 0 0, .int .i64 0] 29)).cell? ⟨w.heap.size, 1, none⟩ = some vT := y0.box (n1 1)
  have k2 : ((w.alloc (.cells #[vS, vT, .int .i64 off] 25)).alloc (.cells #[.int .i64 0, .slice none 0 0, .slice none 0 0, .int .i64 0] 29)).cell? ⟨w.heap.size, 2, none⟩ = some (.int .i64 off) := y0.box (n1 2)
  have q0 : ((w.alloc (.cells #[vS, vT, .int .i64 off] 25)).alloc (.cells #[.int .i64 0, .slice none 0 0, .slice none 0 0, .int .i64 0] 29)).cell? ⟨w.heap.size + 1, 0, none⟩ = some (.int .i64 0) := n2 0
  have q1 : ((w.alloc (.cells #[vS, vT, .int .i64 off] 25)).alloc (.cells #[.int .i64 0, .slice none 0 0, .slice none 0 0, .int .i64 0] 29)).cell? ⟨w.heap.size + 1, 1, none⟩ = some (.slice none 0 0) := n2 1
  have q2 : ((w.alloc (.cells #[vS, vT, .int .i64 off] 25)).alloc (.cells #[.int .i64 0, .slice none 0 0, .slice none 0 0, .int .i64 0] 29)).cell? ⟨w.heap.size + 1, 2, none⟩ = some (.slice none 0 0) := n2 2
  have q3 : ((w.alloc (.cells #[vS, vT, .int .i64 off] 25)).alloc (.cells #[.int .i64 0, .slice none 0 0, .slice none 0 0, .int .i64 0] 29)).cell? ⟨w.heap.size + 1, 3, none⟩ = some (.int .i64 0) := n2 3
  have X0 := hide x0
  have HS := hide (hS.ext x0)
  have HT := hide (hT.ext x0)
  have HS0 := hide hS
  have HT0 := hide hT
  obtain ⟨sa, ca, rfl, rS⟩ := hS
  obtain ⟨sb, cb, rfl, rT⟩ := hT
  clear x0 y0 n1 n2
  have HGV := hide gv
  have hx4 := gv.1.1
  have hdv : Hid ((dcValidV xs ss off) = true) := decide_eq_true gv
  clear gv
  have haxi : (ax : Int) < (xs.length : Int) := by omega
  have ha0 : (0 : Int) ≤ (ax : Int) := Int.natCast_nonneg _
  rcases rS with h0 | ⟨bx, ox, rfl, hrx⟩
  · rw [h0] at haxl; simp at haxl
  have hasl : ax < ss.length := by have := HGV.out.2.1; omega
  have hasi : (ax : Int) < (ss.length : Int) := by omega
  rcases rT with h0 | ⟨bs, os, rfl, hrs⟩
  · rw [h0] at hasl; simp at hasl
  have cx := hrx ax haxl
  have cs := hrs ax hasl
  have hn := HGV.out.1.2.1 ax haxl
  have hsst := HGV.out.2.2.2.1 ax hasl
  have hb := rightL_bd hn hs0 o1
  have hb2 := rightL_bd hn hs0 o2
  have hF0 : slF xs ax start step = rightL start (xs.getD ax 0) step := rfl
  have hC0 : slC xs ax start stop step = cntS (slF xs ax start step) (rightL stop (xs.getD ax 0) step) step := rfl
  rw [← hF0] at hb
  have hcb := cntS_bd (slF xs ax start step) (rightL stop (xs.getD ax 0) step) step (xs.getD ax 0) hs0 hb hb2 hn.1
  rw [← hC0] at hcb
  have hFb : -1 ≤ slF xs ax start step ∧ slF xs ax start step ≤ 4096 := by unfold sLo sHi at hb; split at hb <;> omega
  have hGb : -1 ≤ rightL stop (xs.getD ax 0) step ∧ rightL stop (xs.getD ax 0) step ≤ 4096 := by unfold sLo sHi at hb2; split at hb2 <;> omega
  have hclt := hide (cntS_lt (slF xs ax start step) (rightL stop (xs.getD ax 0) step) step hs0)
  rw [← hC0] at hclt
  have P1 : Hid (∀ W, Calls Try.prog 51 #[.int .i64 start, .int .i64 (xs.getD ax 0), .int .i64 (sLo step), .int .i64 (sHi (xs.getD ax 0) step)] W fun e w' => e = .returned (.int .i64 (slF xs ax start step)) ∧ w' = W) := fun W => l2Right_any start (xs.getD ax 0) (sLo step) (sHi (xs.getD ax 0) step) hn o1 W
  have P2 : Hid (∀ W, Calls Try.prog 51 #[.int .i64 stop, .int .i64 (xs.getD ax 0), .int .i64 (sLo step), .int .i64 (sHi (xs.getD ax 0) step)] W fun e w' => e = .returned (.int .i64 (rightL stop (xs.getD ax 0) step)) ∧ w' = W) := fun W => l2Right_any stop (xs.getD ax 0) (sLo step) (sHi (xs.getD ax 0) step) hn o2 W
  have hIn : Hid (InR (xs.set ax (slC xs ax start stop step)) (xs.set ax (slC xs ax start stop step)).length) := fun j hj => by
    rw [set_getD xs ax _ haxl j]
    by_cases e : ax = j
    · rw [if_pos e]; omega
    · rw [if_neg e]; exact HGV.out.1.2.1 j (by simpa using hj)
  have HC0 := hide hcb
  clear hF0 hC0 hb hb2
  generalize hFF : slF xs ax start step = F at *
  generalize hCC : slC xs ax start stop step = C at *
  generalize hGG : rightL stop (xs.getD ax 0) step = G at *
  have HX := hide (show (xs.getD ax 0) = xs.getD ax 0 from rfl)
  generalize hNN : xs.getD ax 0 = n at cx hn P1 P2 HC0 hcb
  generalize hSS : ss.getD ax 0 = st at cs hsst
  have HNN := hide hNN
  have HSS := hide hSS
  clear hNN hSS hFF hCC hGG HX
  by_cases hs : step < 0
  · have el : sLo step = -1 := if_pos hs
    have eh : sHi n step = (n - 1) := if_pos hs
    rw [el, eh] at P1 P2
    clear el eh
    go_enter Try.func46, Try.ntmps46
    go_wp2_with fail
    refine (sVV_any HS.out HT.out off lx ls).mono ?_
    rintro e w1 ⟨rfl, x1⟩
    rw [hdv.out]
    have l0 := Bel.box x1 k0
    have l1 := Bel.box x1 k1
    have l2 := Bel.box x1 k2
    have r0 := Bel.box x1 q0
    have r1 := Bel.box x1 q1
    have r2 := Bel.box x1 q2
    have r3 := Bel.box x1 q3
    have rf : ∀ o, w1.frozen? ⟨w.heap.size + 1, o, none⟩ = false := fun o => (Below.frozen x1 (p := ⟨w.heap.size + 1, o, none⟩) (cell_lt q0)).trans (X0.out.unfrozen (b := w.heap.size + 1) (by omega) o)
    have B1 := hide (Bel.tr X0.out.bl x1)
    have sz1 : Hid (w.heap.size + 1 < w1.heap.size) := cell_lt r0
    clear x1 k0 k1 k2 q0 q1 q2 q3 X0 HS HT
    have qx := Bel.box B1.out cx
    have m1 : ¬ (ax : Int) < 0 := by omega
    have m2 : ¬ (xs.length : Int) ≤ (ax : Int) := by omega
    have m3 : (step == 0) = false := by simp [hs0]
    have m4 : ¬ step < -1000000 := by omega
    have m5 : ¬ 1000000 < step := by omega
    have m6 : ¬ start < -1000000 := by omega
    have m7 : ¬ 1000000 < start := by omega
    have m8 : ¬ stop < -1000000 := by omega
    have m9 : ¬ 1000000 < stop := by omega
    go_wp2_with fail
    refine (P1.out _).mono ?_
    rintro e w' ⟨rfl, rfl⟩
    go_wp2_with fail
    refine (P2.out _).mono ?_
    rintro e w' ⟨rfl, rfl⟩
    go_wp2_with fail
    try simp only [decide_eq_false m1, decide_eq_false m2, decide_eq_false m4, decide_eq_false m5, decide_eq_false m6, decide_eq_false m7, decide_eq_false m8, decide_eq_false m9, Bool.or_self, Bool.or_false, Bool.false_or]
    clear m1 m2 m3 m4 m5 m6 m7 m8 m9 qx P1 P2
    have S0 := hide (CL.start w')
    go_loopw [16, 17] (fun t i wr => KRel w' F step C t i wr) (fun t i _ => (intOf i - G).toNat)
    case atStart => exact ⟨0, by simp, HC0.out.1, ⟨_, _, rfl⟩, by simpa [takenL] using S0.out⟩
    case round =>
      obtain ⟨k, rfl, hk, ⟨s, cc, rfl⟩, hC⟩ := hrel
      have HC := hide hC
      clear hC
      have hlT := takenL_len F step k
      have hks : (k : Int) * step ≤ 0 := by have := Int.mul_nonneg (a := (k : Int)) (b := -step) (by omega) (by omega); rw [Int.mul_neg] at this; omega
      by_cases hlt : (k : Int) < C
      · have hgo : G < F + (k : Int) * step := by
          rcases (hclt.out k).2 hlt with q | q
          · omega
          · omega
        generalize hT : takenL F step k = T at HC hlT
        have HT' := hide hT
        clear hT
        generalize hI : F + (k : Int) * step = I at hgo ⊢
        have HI := hide hI
        have hIb : -1 ≤ I ∧ I ≤ 4096 := by omega
        have hlT4 : T.length ≤ 4096 := by have := HC0.out; omega
        have HlT := hide hlT
        clear hI hlT hks
        go_wp2_with (at_builtin; (refine wpList_append_own _ rfl _ _ 23 rfl w'.heap.size 2 i0 (.int .i64 0) 1 8 Try.underlying23 hi0 hz0 hz1 hz2 rfl (by decide) _ _ _ rfl (HC.out.own.alloc _) ⟨wr.heap.size, 0, none⟩ 1 1 [.int .i64 I] rfl rfl (cell_one_new _ _ _) (one_val _) (by unfold maxLen; omega) (by omega) (HC.out.szP I) ?_); intro v3 w3 hown3 hgrow3 hnil3)
        have St := HC.out.step I hown3 hgrow3
        obtain ⟨s3, c3, rfl⟩ := own_form2 hown3
        have HSt := hide St
        clear St hown3 hgrow3 hnil3
        go_wp2
        go_roundw
        · exact krel_step HlT.out HT'.out HI.out hlt HSt.out
        · simp [intOf]; omega
      · have hkC : (k : Int) = C := by omega
        have hgo : ¬ G < F + (k : Int) * step := fun q => hlt ((hclt.out k).1 (by omega))
        generalize hI : F + (k : Int) * step = I at hgo ⊢
        clear hI hks
        have TK0 := hide (cl_first HC.out)
        have l0' := Bel.box HC.out.bl l0
        have l1' := Bel.box HC.out.bl l1
        have l2' := Bel.box HC.out.bl l2
        have HSw := hide (HS0.out.below (Bel.tr B1.out HC.out.bl))
        have HTw := hide (HT0.out.below (Bel.tr B1.out HC.out.bl))
        go_wp2_with fail
        refine (copyView_any HSw.out HTw.out off hx4 HGV.out.2.1 (by omega)).mono ?_
        rintro e w5 ⟨g, h, cg, ch, rfl, hg1, hgh, hh1, rg, rh, gf, hf, pg5, ph5, x5⟩
        have Q5 := hide (QW.start (w := w) (lx := xs.length) (ls := ss.length) (cg := cg) (ch := ch) (Bel.tr HC.out.bl x5) B1.out sz1.out l0 l1 l2 r0 r1 r2 r3 rf (Nat.le_trans (Below.size HC.out.bl) hg1) hgh hh1 rg rh gf hf pg5 ph5)
        have y5 : Bel w5 (w5.alloc (.cells #[.slice (some ⟨g, 0, none⟩) xs.length cg, .slice (some ⟨h, 0, none⟩) ss.length ch, .int .i64 off] 25)) := ((Ext.refl w5).alloc _ _).bl
        have C5 := hide ((HC.out.keep x5).keep y5)
        have TK : Hid (0 < k → ∃ tb, s = some ⟨tb, 0, none⟩ ∧ tb < g ∧ w5.cell? ⟨tb, 0, none⟩ = some (.int .i64 F)) := fun hk0 => by
          obtain ⟨tb, t1, t2⟩ := TK0.out hk0
          exact ⟨tb, t1, Nat.lt_of_lt_of_le (cell_lt t2) hg1, Bel.box x5 t2⟩
        clear TK0
        clear HC l0' l1' l2' HSw HTw x5 y5 hg1 hgh hh1 rg rh gf hf pg5 ph5
        generalize hV5 : w5.alloc (.cells #[.slice (some ⟨g, 0, none⟩) xs.length cg, .slice (some ⟨h, 0, none⟩) ss.length ch, .int .i64 off] 25) = V5 at Q5 C5
        generalize hB5 : w5.heap.size = B at Q5
        have o0 := Q5.out.o0
        have gx := Q5.out.rg ax haxl
        rw [Nat.zero_add] at gx
        have gf := Q5.out.gf
        have Q6 := hide (Q5.out.setG ax haxl C)
        have z0 := Q6.out.o0
        have tk : Hid (0 < k → ∃ tb, s = some ⟨tb, 0, none⟩ ∧ tb < g ∧ V5.cell? ⟨tb, 0, none⟩ = some (.int .i64 F)) := fun hk0 => by
          obtain ⟨tb, e1, e2, e3⟩ := TK.out hk0
          exact ⟨tb, e1, e2, by rw [← hV5]; exact Bel.box ((Ext.refl w5).alloc _ _).bl e3⟩
        clear C5 TK
        have hG : Hid (cntL (xs.set ax C) = prod (xs.set ax C)) := if_pos ⟨by simpa using hx4, hIn.out, Int.le_trans (prod_set_le xs ax C haxl (fun j hj => (HGV.out.1.2.1 j hj).1) HC0.out.1 (by rw [HNN.out]; exact HC0.out.2)) HGV.out.1.2.2⟩
        go_wp2_with fail
        clear hV5 hB5
        refine (l2Count_any (Q6.out.rg.ints (n := xs.length) (cap := cg) (by simp)) (by simp; omega)).mono ?_
        rintro e w7 ⟨rfl, rfl⟩
        rw [hG.out]
        have hSO : Hid (slO xs ss ax C F off = if prod (xs.set ax C) = 0 then off else off + F * ss.getD ax 0) := rfl
        have hSS : Hid (slS xs ss ax C step = if prod (xs.set ax C) = 0 then ss else if 2 ≤ C then ss.set ax (ss.getD ax 0 * step) else ss) := rfl
        have hz : Hid (prod (xs.set ax C) ≠ 0 → 0 < k) := fun q => by
          rcases Nat.eq_zero_or_pos k with e | e
          · exact absurd (prod_set_zero xs ax C haxl (by omega)) q
          · exact e
        generalize hV6 : V5.setCell ⟨g, ax, none⟩ (.int .i64 C) = V6 at Q6 z0 ⊢
        have tk6 : Hid (0 < k → ∃ tb, s = some ⟨tb, 0, none⟩ ∧ tb < g ∧ V6.cell? ⟨tb, 0, none⟩ = some (.int .i64 F)) := fun hk0 => by
          obtain ⟨tb, e1, e2, e3⟩ := tk.out hk0
          exact ⟨tb, e1, e2, by rw [← hV6]; exact far1 (by omega) e3⟩
        clear hV6 tk hG z0 o0 gx gf Q5 hIn
        rw [HSS.out] at hSO hSS
        generalize prod (xs.set ax C) = P at hSO hSS hz ⊢
        by_cases hP0 : P = 0
        · rw [if_pos hP0] at hSO hSS
          subst hP0
          have zo0 := Q6.out.o0
          have zo1 := Q6.out.o1
          have zo2 := Q6.out.o2
          have zr0 := Q6.out.r0
          have zr1 := Q6.out.r1
          have zr2 := Q6.out.r2
          have zr3 := Q6.out.r3
          have zf := Q6.out.rf
          go_wp2
          exact bodyPost_ret (v := .agg #[.int .i64 0, .slice (some ⟨g, 0, none⟩) xs.length cg, .slice (some ⟨h, 0, none⟩) ss.length ch, .int .i64 off]) (by simp [results, Try.results46, go_sem, set4_0 zr0, set4_1 zr1, set4_2 zr2, set4_3 zr3]) rfl (Q6.out.done (by simp) rfl rfl hSS.out hSO.out)
        · rw [if_neg hP0] at hSO hSS
          have hPn : (P != 0) = true := by simp [hP0]
          have hk0 := hz.out hP0
          obtain ⟨tb, rfl, htg, tc⟩ := tk6.out hk0
          have hk0i : (0 : Int) < (k : Int) := by omega
          have hfs : -4096 * 4096 ≤ F * st ∧ F * st ≤ 4096 * 4096 := by
            by_cases e : F = -1
            · subst e; omega
            · have := mul_between F 4097 st (by omega) (by omega)
              omega
          have hstp : -4096000000 ≤ step * st ∧ step * st ≤ 4096000000 := by
            by_cases e : 0 ≤ step
            · have := mul_between step 1000001 st (by omega) (by omega)
              omega
            · have := mul_between (-step) 1000001 st (by omega) (by omega)
              have e2 : -step * st = -(step * st) := by rw [Int.neg_mul]
              omega
          clear tk6 hz hP0
          have hwm : IntKind.i64.wrap (F * st) = F * st := by rw [IntKind.wrap_i64]; omega
          have hwo : IntKind.i64.wrap (off + F * st) = off + F * st := by rw [IntKind.wrap_i64]; have := HGV.out.2.2.1; omega
          have hws : IntKind.i64.wrap (step * st) = step * st := by rw [IntKind.wrap_i64]; omega
          have hkn : ¬ k = 0 := by omega
          have hkz : ¬ k ≤ 0 := by omega
          have hk1 : 1 ≤ k := by omega
          have hCp : (0 : Int) < C := by omega
          have c6 := Bel.box Q6.out.bl cs
          have e1 := Q6.out.h1
          have e2 := Q6.out.h2
          have e3 := Q6.out.h3
          have hbs := cell_lt cs
          have SA : Hid ((fun w' => w'.cell? ⟨w.heap.size, 2, none⟩ = some (.int .i64 off) ∧ w'.cell? ⟨tb, 0, none⟩ = some (.int .i64 F) ∧ w'.cell? ⟨w.heap.size, 1, none⟩ = some (.slice (some ⟨bs, os, none⟩) ss.length cb) ∧ w'.cell? ⟨bs, os + ax, none⟩ = some (.int .i64 st)) V6.drew) := ⟨Q6.out.p2, tc, Q6.out.p1, c6⟩
          have SB' : Hid ((fun w' => w'.cell? ⟨w.heap.size, 2, none⟩ = some (.int .i64 off) ∧ w'.cell? ⟨tb, 0, none⟩ = some (.int .i64 F) ∧ w'.cell? ⟨w.heap.size, 1, none⟩ = some (.slice (some ⟨bs, os, none⟩) ss.length cb) ∧ w'.cell? ⟨bs, os + ax, none⟩ = some (.int .i64 st)) (V6.setCell ⟨B, 2, none⟩ (.int .i64 (off + F * st))).drew) := ⟨far1 (by omega) Q6.out.p2, far1 (by omega) tc, far1 (by omega) Q6.out.p1, far1 (by omega) c6⟩
          have Q7 := hide ((Q6.out.keep (bel_drew V6)).setO (off + F * st))
          have zo2 := Q6.out.o2
          have zbf := Q6.out.bf
          go_wp2_with fail
          go_region_held3 (fun w' => w'.cell? ⟨w.heap.size, 2, none⟩ = some (.int .i64 off) ∧ w'.cell? ⟨tb, 0, none⟩ = some (.int .i64 F) ∧ w'.cell? ⟨w.heap.size, 1, none⟩ = some (.slice (some ⟨bs, os, none⟩) ss.length cb) ∧ w'.cell? ⟨bs, os + ax, none⟩ = some (.int .i64 st)) (first | with_reducible exact SA.out | with_reducible exact SB'.out | exact SB'.out | fail) (fail)
          clear SA SB' zo2 zbf Q6 c6 tc
          have Q8 := hide (QW.of_eq Q7.out (show V6.drew.setCell ⟨B, 2, none⟩ (.int .i64 (off + F * st)) = (V6.setCell ⟨B, 2, none⟩ (.int .i64 (off + F * st))).drew from rfl))
          generalize hV8 : (V6.setCell ⟨B, 2, none⟩ (.int .i64 (off + F * st))).drew = V8 at Q8 ⊢
          clear hV8 Q7
          by_cases hC2 : 2 ≤ C
          · rw [if_pos hC2] at hSS
            have hk2 : (1 : Int) < (k : Int) := by omega
            have c8 := Bel.box Q8.out.bl cs
            have Q9 := hide ((Q8.out.keep (bel_drew V8)).setH ax hasl (step * st))
            have SA : Hid ((fun w' => w'.cell? ⟨B, 1, none⟩ = some (.slice (some ⟨h, 0, none⟩) ss.length ch) ∧ w'.cell? ⟨w.heap.size, 1, none⟩ = some (.slice (some ⟨bs, os, none⟩) ss.length cb) ∧ w'.cell? ⟨bs, os + ax, none⟩ = some (.int .i64 st)) V8.drew) := ⟨Q8.out.o1, Q8.out.p1, c8⟩
            have SB' : Hid ((fun w' => w'.cell? ⟨B, 1, none⟩ = some (.slice (some ⟨h, 0, none⟩) ss.length ch) ∧ w'.cell? ⟨w.heap.size, 1, none⟩ = some (.slice (some ⟨bs, os, none⟩) ss.length cb) ∧ w'.cell? ⟨bs, os + ax, none⟩ = some (.int .i64 st)) (V8.setCell ⟨h, ax, none⟩ (.int .i64 (step * st))).drew) := ⟨far1 (by omega) Q8.out.o1, far1 (by omega) Q8.out.p1, far1 (by omega) c8⟩
            have hx := Q8.out.rh ax hasl
            rw [Nat.zero_add] at hx
            have hhf := Q8.out.hf
            go_wp2_with fail
            go_region_held3 (fun w' => w'.cell? ⟨B, 1, none⟩ = some (.slice (some ⟨h, 0, none⟩) ss.length ch) ∧ w'.cell? ⟨w.heap.size, 1, none⟩ = some (.slice (some ⟨bs, os, none⟩) ss.length cb) ∧ w'.cell? ⟨bs, os + ax, none⟩ = some (.int .i64 st)) (first | with_reducible exact SA.out | with_reducible exact SB'.out | exact SB'.out | fail) (fail)
            clear SA SB' hx hhf Q8 c8
            have Q10 := hide (QW.of_eq Q9.out (show V8.drew.setCell ⟨h, ax, none⟩ (.int .i64 (step * st)) = (V8.setCell ⟨h, ax, none⟩ (.int .i64 (step * st))).drew from rfl))
            generalize hV10 : (V8.setCell ⟨h, ax, none⟩ (.int .i64 (step * st))).drew = V10 at Q10 ⊢
            clear hV10 Q9
            have zo0 := Q10.out.o0
            have zo1 := Q10.out.o1
            have zo2 := Q10.out.o2
            have zr0 := Q10.out.r0
            have zr1 := Q10.out.r1
            have zr2 := Q10.out.r2
            have zr3 := Q10.out.r3
            have zf := Q10.out.rf
            go_wp2
            exact bodyPost_ret (v := .agg #[.int .i64 0, .slice (some ⟨g, 0, none⟩) xs.length cg, .slice (some ⟨h, 0, none⟩) ss.length ch, .int .i64 (off + F * st)]) (by simp [results, Try.results46, go_sem, set4_0 zr0, set4_1 zr1, set4_2 zr2, set4_3 zr3]) rfl (Q10.out.done (by simp) (by simp) rfl (by rw [hSS.out, Int.mul_comm]) hSO.out)
          · rw [if_neg hC2] at hSS
            have hk2 : ¬ (1 : Int) < (k : Int) := by omega
            have zo0 := Q8.out.o0
            have zo1 := Q8.out.o1
            have zo2 := Q8.out.o2
            have zr0 := Q8.out.r0
            have zr1 := Q8.out.r1
            have zr2 := Q8.out.r2
            have zr3 := Q8.out.r3
            have zf := Q8.out.rf
            go_wp2
            exact bodyPost_ret (v := .agg #[.int .i64 0, .slice (some ⟨g, 0, none⟩) xs.length cg, .slice (some ⟨h, 0, none⟩) ss.length ch, .int .i64 (off + F * st)]) (by simp [results, Try.results46, go_sem, set4_0 zr0, set4_1 zr1, set4_2 zr2, set4_3 zr3]) rfl (Q8.out.done (by simp) rfl rfl hSS.out hSO.out)
  · have el : sLo step = 0 := if_neg hs
    have eh : sHi n step = n := if_neg hs
    rw [el, eh] at P1 P2
    clear el eh
    go_enter Try.func46, Try.ntmps46
    go_wp2_with fail
    refine (sVV_any HS.out HT.out off lx ls).mono ?_
    rintro e w1 ⟨rfl, x1⟩
    rw [hdv.out]
    have l0 := Bel.box x1 k0
    have l1 := Bel.box x1 k1
    have l2 := Bel.box x1 k2
    have r0 := Bel.box x1 q0
    have r1 := Bel.box x1 q1
    have r2 := Bel.box x1 q2
    have r3 := Bel.box x1 q3
    have rf : ∀ o, w1.frozen? ⟨w.heap.size + 1, o, none⟩ = false := fun o => (Below.frozen x1 (p := ⟨w.heap.size + 1, o, none⟩) (cell_lt q0)).trans (X0.out.unfrozen (b := w.heap.size + 1) (by omega) o)
    have B1 := hide (Bel.tr X0.out.bl x1)
    have sz1 : Hid (w.heap.size + 1 < w1.heap.size) := cell_lt r0
    clear x1 k0 k1 k2 q0 q1 q2 q3 X0 HS HT
    have qx := Bel.box B1.out cx
    have m1 : ¬ (ax : Int) < 0 := by omega
    have m2 : ¬ (xs.length : Int) ≤ (ax : Int) := by omega
    have m3 : (step == 0) = false := by simp [hs0]
    have m4 : ¬ step < -1000000 := by omega
    have m5 : ¬ 1000000 < step := by omega
    have m6 : ¬ start < -1000000 := by omega
    have m7 : ¬ 1000000 < start := by omega
    have m8 : ¬ stop < -1000000 := by omega
    have m9 : ¬ 1000000 < stop := by omega
    go_wp2_with fail
    refine (P1.out _).mono ?_
    rintro e w' ⟨rfl, rfl⟩
    go_wp2_with fail
    refine (P2.out _).mono ?_
    rintro e w' ⟨rfl, rfl⟩
    go_wp2_with fail
    try simp only [decide_eq_false m1, decide_eq_false m2, decide_eq_false m4, decide_eq_false m5, decide_eq_false m6, decide_eq_false m7, decide_eq_false m8, decide_eq_false m9, Bool.or_self, Bool.or_false, Bool.false_or]
    clear m1 m2 m3 m4 m5 m6 m7 m8 m9 qx P1 P2
    have S0 := hide (CL.start w')
    go_loopw [16, 17] (fun t i wr => KRel w' F step C t i wr) (fun t i _ => (G - intOf i).toNat)
    case atStart => exact ⟨0, by simp, HC0.out.1, ⟨_, _, rfl⟩, by simpa [takenL] using S0.out⟩
    case round =>
      obtain ⟨k, rfl, hk, ⟨s, cc, rfl⟩, hC⟩ := hrel
      have HC := hide hC
      clear hC
      have hlT := takenL_len F step k
      have hks : 0 ≤ (k : Int) * step := Int.mul_nonneg (by omega) (by omega)
      by_cases hlt : (k : Int) < C
      · have hgo : F + (k : Int) * step < G := by
          rcases (hclt.out k).2 hlt with q | q
          · omega
          · omega
        generalize hT : takenL F step k = T at HC hlT
        have HT' := hide hT
        clear hT
        generalize hI : F + (k : Int) * step = I at hgo ⊢
        have HI := hide hI
        have hIb : -1 ≤ I ∧ I ≤ 4096 := by omega
        have hlT4 : T.length ≤ 4096 := by have := HC0.out; omega
        have HlT := hide hlT
        clear hI hlT hks
        go_wp2_with (at_builtin; (refine wpList_append_own _ rfl _ _ 23 rfl w'.heap.size 2 i0 (.int .i64 0) 1 8 Try.underlying23 hi0 hz0 hz1 hz2 rfl (by decide) _ _ _ rfl (HC.out.own.alloc _) ⟨wr.heap.size, 0, none⟩ 1 1 [.int .i64 I] rfl rfl (cell_one_new _ _ _) (one_val _) (by unfold maxLen; omega) (by omega) (HC.out.szP I) ?_); intro v3 w3 hown3 hgrow3 hnil3)
        have St := HC.out.step I hown3 hgrow3
        obtain ⟨s3, c3, rfl⟩ := own_form2 hown3
        have HSt := hide St
        clear St hown3 hgrow3 hnil3
        go_wp2
        go_roundw
        · exact krel_step HlT.out HT'.out HI.out hlt HSt.out
        · simp [intOf]; omega
      · have hkC : (k : Int) = C := by omega
        have hgo : ¬ F + (k : Int) * step < G := fun q => hlt ((hclt.out k).1 (by omega))
        generalize hI : F + (k : Int) * step = I at hgo ⊢
        clear hI hks
        have TK0 := hide (cl_first HC.out)
        have l0' := Bel.box HC.out.bl l0
        have l1' := Bel.box HC.out.bl l1
        have l2' := Bel.box HC.out.bl l2
        have HSw := hide (HS0.out.below (Bel.tr B1.out HC.out.bl))
        have HTw := hide (HT0.out.below (Bel.tr B1.out HC.out.bl))
        go_wp2_with fail
        refine (copyView_any HSw.out HTw.out off hx4 HGV.out.2.1 (by omega)).mono ?_
        rintro e w5 ⟨g, h, cg, ch, rfl, hg1, hgh, hh1, rg, rh, gf, hf, pg5, ph5, x5⟩
        have Q5 := hide (QW.start (w := w) (lx := xs.length) (ls := ss.length) (cg := cg) (ch := ch) (Bel.tr HC.out.bl x5) B1.out sz1.out l0 l1 l2 r0 r1 r2 r3 rf (Nat.le_trans (Below.size HC.out.bl) hg1) hgh hh1 rg rh gf hf pg5 ph5)
        have y5 : Bel w5 (w5.alloc (.cells #[.slice (some ⟨g, 0, none⟩) xs.length cg, .slice (some ⟨h, 0, none⟩) ss.length ch, .int .i64 off] 25)) := ((Ext.refl w5).alloc _ _).bl
        have C5 := hide ((HC.out.keep x5).keep y5)
        have TK : Hid (0 < k → ∃ tb, s = some ⟨tb, 0, none⟩ ∧ tb < g ∧ w5.cell? ⟨tb, 0, none⟩ = some (.int .i64 F)) := fun hk0 => by
          obtain ⟨tb, t1, t2⟩ := TK0.out hk0
          exact ⟨tb, t1, Nat.lt_of_lt_of_le (cell_lt t2) hg1, Bel.box x5 t2⟩
        clear TK0
        clear HC l0' l1' l2' HSw HTw x5 y5 hg1 hgh hh1 rg rh gf hf pg5 ph5
        generalize hV5 : w5.alloc (.cells #[.slice (some ⟨g, 0, none⟩) xs.length cg, .slice (some ⟨h, 0, none⟩) ss.length ch, .int .i64 off] 25) = V5 at Q5 C5
        generalize hB5 : w5.heap.size = B at Q5
        have o0 := Q5.out.o0
        have gx := Q5.out.rg ax haxl
        rw [Nat.zero_add] at gx
        have gf := Q5.out.gf
        have Q6 := hide (Q5.out.setG ax haxl C)
        have z0 := Q6.out.o0
        have tk : Hid (0 < k → ∃ tb, s = some ⟨tb, 0, none⟩ ∧ tb < g ∧ V5.cell? ⟨tb, 0, none⟩ = some (.int .i64 F)) := fun hk0 => by
          obtain ⟨tb, e1, e2, e3⟩ := TK.out hk0
          exact ⟨tb, e1, e2, by rw [← hV5]; exact Bel.box ((Ext.refl w5).alloc _ _).bl e3⟩
        clear C5 TK
        have hG : Hid (cntL (xs.set ax C) = prod (xs.set ax C)) := if_pos ⟨by simpa using hx4, hIn.out, Int.le_trans (prod_set_le xs ax C haxl (fun j hj => (HGV.out.1.2.1 j hj).1) HC0.out.1 (by rw [HNN.out]; exact HC0.out.2)) HGV.out.1.2.2⟩
        go_wp2_with fail
        clear hV5 hB5
        refine (l2Count_any (Q6.out.rg.ints (n := xs.length) (cap := cg) (by simp)) (by simp; omega)).mono ?_
        rintro e w7 ⟨rfl, rfl⟩
        rw [hG.out]
        have hSO : Hid (slO xs ss ax C F off = if prod (xs.set ax C) = 0 then off else off + F * ss.getD ax 0) := rfl
        have hSS : Hid (slS xs ss ax C step = if prod (xs.set ax C) = 0 then ss else if 2 ≤ C then ss.set ax (ss.getD ax 0 * step) else ss) := rfl
        have hz : Hid (prod (xs.set ax C) ≠ 0 → 0 < k) := fun q => by
          rcases Nat.eq_zero_or_pos k with e | e
          · exact absurd (prod_set_zero xs ax C haxl (by omega)) q
          · exact e
        generalize hV6 : V5.setCell ⟨g, ax, none⟩ (.int .i64 C) = V6 at Q6 z0 ⊢
        have tk6 : Hid (0 < k → ∃ tb, s = some ⟨tb, 0, none⟩ ∧ tb < g ∧ V6.cell? ⟨tb, 0, none⟩ = some (.int .i64 F)) := fun hk0 => by
          obtain ⟨tb, e1, e2, e3⟩ := tk.out hk0
          exact ⟨tb, e1, e2, by rw [← hV6]; exact far1 (by omega) e3⟩
        clear hV6 tk hG z0 o0 gx gf Q5 hIn
        rw [HSS.out] at hSO hSS
        generalize prod (xs.set ax C) = P at hSO hSS hz ⊢
        by_cases hP0 : P = 0
        · rw [if_pos hP0] at hSO hSS
          subst hP0
          have zo0 := Q6.out.o0
          have zo1 := Q6.out.o1
          have zo2 := Q6.out.o2
          have zr0 := Q6.out.r0
          have zr1 := Q6.out.r1
          have zr2 := Q6.out.r2
          have zr3 := Q6.out.r3
          have zf := Q6.out.rf
          go_wp2
          exact bodyPost_ret (v := .agg #[.int .i64 0, .slice (some ⟨g, 0, none⟩) xs.length cg, .slice (some ⟨h, 0, none⟩) ss.length ch, .int .i64 off]) (by simp [results, Try.results46, go_sem, set4_0 zr0, set4_1 zr1, set4_2 zr2, set4_3 zr3]) rfl (Q6.out.done (by simp) rfl rfl hSS.out hSO.out)
        · rw [if_neg hP0] at hSO hSS
          have hPn : (P != 0) = true := by simp [hP0]
          have hk0 := hz.out hP0
          obtain ⟨tb, rfl, htg, tc⟩ := tk6.out hk0
          have hk0i : (0 : Int) < (k : Int) := by omega
          have hfs : -4096 * 4096 ≤ F * st ∧ F * st ≤ 4096 * 4096 := by
            by_cases e : F = -1
            · subst e; omega
            · have := mul_between F 4097 st (by omega) (by omega)
              omega
          have hstp : -4096000000 ≤ step * st ∧ step * st ≤ 4096000000 := by
            by_cases e : 0 ≤ step
            · have := mul_between step 1000001 st (by omega) (by omega)
              omega
            · have := mul_between (-step) 1000001 st (by omega) (by omega)
              have e2 : -step * st = -(step * st) := by rw [Int.neg_mul]
              omega
          clear tk6 hz hP0
          have hwm : IntKind.i64.wrap (F * st) = F * st := by rw [IntKind.wrap_i64]; omega
          have hwo : IntKind.i64.wrap (off + F * st) = off + F * st := by rw [IntKind.wrap_i64]; have := HGV.out.2.2.1; omega
          have hws : IntKind.i64.wrap (step * st) = step * st := by rw [IntKind.wrap_i64]; omega
          have hkn : ¬ k = 0 := by omega
          have hkz : ¬ k ≤ 0 := by omega
          have hk1 : 1 ≤ k := by omega
          have hCp : (0 : Int) < C := by omega
          have c6 := Bel.box Q6.out.bl cs
          have e1 := Q6.out.h1
          have e2 := Q6.out.h2
          have e3 := Q6.out.h3
          have hbs := cell_lt cs
          have SA : Hid ((fun w' => w'.cell? ⟨w.heap.size, 2, none⟩ = some (.int .i64 off) ∧ w'.cell? ⟨tb, 0, none⟩ = some (.int .i64 F) ∧ w'.cell? ⟨w.heap.size, 1, none⟩ = some (.slice (some ⟨bs, os, none⟩) ss.length cb) ∧ w'.cell? ⟨bs, os + ax, none⟩ = some (.int .i64 st)) V6.drew) := ⟨Q6.out.p2, tc, Q6.out.p1, c6⟩
          have SB' : Hid ((fun w' => w'.cell? ⟨w.heap.size, 2, none⟩ = some (.int .i64 off) ∧ w'.cell? ⟨tb, 0, none⟩ = some (.int .i64 F) ∧ w'.cell? ⟨w.heap.size, 1, none⟩ = some (.slice (some ⟨bs, os, none⟩) ss.length cb) ∧ w'.cell? ⟨bs, os + ax, none⟩ = some (.int .i64 st)) (V6.setCell ⟨B, 2, none⟩ (.int .i64 (off + F * st))).drew) := ⟨far1 (by omega) Q6.out.p2, far1 (by omega) tc, far1 (by omega) Q6.out.p1, far1 (by omega) c6⟩
          have Q7 := hide ((Q6.out.keep (bel_drew V6)).setO (off + F * st))
          have zo2 := Q6.out.o2
          have zbf := Q6.out.bf
          go_wp2_with fail
          go_region_held3 (fun w' => w'.cell? ⟨w.heap.size, 2, none⟩ = some (.int .i64 off) ∧ w'.cell? ⟨tb, 0, none⟩ = some (.int .i64 F) ∧ w'.cell? ⟨w.heap.size, 1, none⟩ = some (.slice (some ⟨bs, os, none⟩) ss.length cb) ∧ w'.cell? ⟨bs, os + ax, none⟩ = some (.int .i64 st)) (first | with_reducible exact SA.out | with_reducible exact SB'.out | exact SB'.out | fail) (fail)
          clear SA SB' zo2 zbf Q6 c6 tc
          have Q8 := hide (QW.of_eq Q7.out (show V6.drew.setCell ⟨B, 2, none⟩ (.int .i64 (off + F * st)) = (V6.setCell ⟨B, 2, none⟩ (.int .i64 (off + F * st))).drew from rfl))
          generalize hV8 : (V6.setCell ⟨B, 2, none⟩ (.int .i64 (off + F * st))).drew = V8 at Q8 ⊢
          clear hV8 Q7
          by_cases hC2 : 2 ≤ C
          · rw [if_pos hC2] at hSS
            have hk2 : (1 : Int) < (k : Int) := by omega
            have c8 := Bel.box Q8.out.bl cs
            have Q9 := hide ((Q8.out.keep (bel_drew V8)).setH ax hasl (step * st))
            have SA : Hid ((fun w' => w'.cell? ⟨B, 1, none⟩ = some (.slice (some ⟨h, 0, none⟩) ss.length ch) ∧ w'.cell? ⟨w.heap.size, 1, none⟩ = some (.slice (some ⟨bs, os, none⟩) ss.length cb) ∧ w'.cell? ⟨bs, os + ax, none⟩ = some (.int .i64 st)) V8.drew) := ⟨Q8.out.o1, Q8.out.p1, c8⟩
            have SB' : Hid ((fun w' => w'.cell? ⟨B, 1, none⟩ = some (.slice (some ⟨h, 0, none⟩) ss.length ch) ∧ w'.cell? ⟨w.heap.size, 1, none⟩ = some (.slice (some ⟨bs, os, none⟩) ss.length cb) ∧ w'.cell? ⟨bs, os + ax, none⟩ = some (.int .i64 st)) (V8.setCell ⟨h, ax, none⟩ (.int .i64 (step * st))).drew) := ⟨far1 (by omega) Q8.out.o1, far1 (by omega) Q8.out.p1, far1 (by omega) c8⟩
            have hx := Q8.out.rh ax hasl
            rw [Nat.zero_add] at hx
            have hhf := Q8.out.hf
            go_wp2_with fail
            go_region_held3 (fun w' => w'.cell? ⟨B, 1, none⟩ = some (.slice (some ⟨h, 0, none⟩) ss.length ch) ∧ w'.cell? ⟨w.heap.size, 1, none⟩ = some (.slice (some ⟨bs, os, none⟩) ss.length cb) ∧ w'.cell? ⟨bs, os + ax, none⟩ = some (.int .i64 st)) (first | with_reducible exact SA.out | with_reducible exact SB'.out | exact SB'.out | fail) (fail)
            clear SA SB' hx hhf Q8 c8
            have Q10 := hide (QW.of_eq Q9.out (show V8.drew.setCell ⟨h, ax, none⟩ (.int .i64 (step * st)) = (V8.setCell ⟨h, ax, none⟩ (.int .i64 (step * st))).drew from rfl))
            generalize hV10 : (V8.setCell ⟨h, ax, none⟩ (.int .i64 (step * st))).drew = V10 at Q10 ⊢
            clear hV10 Q9
            have zo0 := Q10.out.o0
            have zo1 := Q10.out.o1
            have zo2 := Q10.out.o2
            have zr0 := Q10.out.r0
            have zr1 := Q10.out.r1
            have zr2 := Q10.out.r2
            have zr3 := Q10.out.r3
            have zf := Q10.out.rf
            go_wp2
            exact bodyPost_ret (v := .agg #[.int .i64 0, .slice (some ⟨g, 0, none⟩) xs.length cg, .slice (some ⟨h, 0, none⟩) ss.length ch, .int .i64 (off + F * st)]) (by simp [results, Try.results46, go_sem, set4_0 zr0, set4_1 zr1, set4_2 zr2, set4_3 zr3]) rfl (Q10.out.done (by simp) (by simp) rfl (by rw [hSS.out, Int.mul_comm]) hSO.out)
          · rw [if_neg hC2] at hSS
            have hk2 : ¬ (1 : Int) < (k : Int) := by omega
            have zo0 := Q8.out.o0
            have zo1 := Q8.out.o1
            have zo2 := Q8.out.o2
            have zr0 := Q8.out.r0
            have zr1 := Q8.out.r1
            have zr2 := Q8.out.r2
            have zr3 := Q8.out.r3
            have zf := Q8.out.rf
            go_wp2
            exact bodyPost_ret (v := .agg #[.int .i64 0, .slice (some ⟨g, 0, none⟩) xs.length cg, .slice (some ⟨h, 0, none⟩) ss.length ch, .int .i64 (off + F * st)]) (by simp [results, Try.results46, go_sem, set4_0 zr0, set4_1 zr1, set4_2 zr2, set4_3 zr3]) rfl (Q8.out.done (by simp) rfl rfl hSS.out hSO.out)
end Go.Proofs.Ytanbgpmbccianaa
