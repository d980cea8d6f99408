import Derived.Test.YtiekkninnjffpaaFixV3
namespace Go.Proofs.Ytiekkninnjffpaa
open Go.ChangeShapes Go.RowKit
set_option linter.unusedSimpArgs false
set_option linter.unusedVariables false

/-- Does the shape xs stretch to ys? -/
abbrev Strs (xs ys : List Int) : Prop := xs.length ≤ ys.length ∧ ∀ j, j < xs.length → (xs.getD j 0 = ys.getD (ys.length - xs.length + j) 0 ∨ xs.getD j 0 = 1)
def dcStrs (xs ys : List Int) : Bool := decide (Strs xs ys)
theorem dcStrs_t {xs ys : List Int} (h : Strs xs ys) : dcStrs xs ys = true := decide_eq_true h
theorem dcStrs_f {xs ys : List Int} (h : ¬ Strs xs ys) : dcStrs xs ys = false := decide_eq_false h

/-- The stride at axis i behind it. -/
def strAt (xs ss ys : List Int) (i : Nat) : Int :=
  if i < ys.length - xs.length then 0 else if xs.getD (i - (ys.length - xs.length)) 0 = ys.getD i 0 then ss.getD (i - (ys.length - xs.length)) 0 else 0
def bstr (xs ss ys : List Int) : List Int := (List.range ys.length).map (strAt xs ss ys)
theorem bstr_len (xs ss ys : List Int) : (bstr xs ss ys).length = ys.length := by simp [bstr]
theorem bstr_getD (xs ss ys : List Int) (i : Nat) : (bstr xs ss ys).getD i 0 = if i < ys.length then strAt xs ss ys i else 0 := by
  unfold bstr
  by_cases h : i < ys.length
  · rw [if_pos h]; simp [List.getD_eq_getElem?_getD, h]
  · rw [if_neg h]; simp [List.getD_eq_getElem?_getD, h]

def StrOk (w : World) (xs ss ys : List Int) (off : Int) (e : Ending) (w' : World) : Prop :=
  ∃ A : Array Value, e = .returned (.tuple #[.agg A, .bool (dcStrs xs ys)]) ∧ (Strs xs ys → A = vw ys (bstr xs ss ys) off) ∧ (∃ a0 a1 a2 a3 a4 a5 a6 a7 a8 a9 : Int, A = #[.int .i64 a0, .int .i64 a1, .int .i64 a2, .int .i64 a3, .int .i64 a4, .int .i64 a5, .int .i64 a6, .int .i64 a7, .int .i64 a8, .int .i64 a9]) ∧ Ext w w'
theorem bad_str {w w' : World} {xs ss ys : List Int} {off : Int} (h : ¬ Strs xs ys) (x : Ext w w') : StrOk w xs ss ys off (.returned (.tuple #[.agg #[.int .i64 0, .int .i64 0, .int .i64 0, .int .i64 0, .int .i64 0, .int .i64 0, .int .i64 0, .int .i64 0, .int .i64 0, .int .i64 0], .bool false])) w' :=
  ⟨_, by rw [dcStrs_f h], fun q => absurd q h, ⟨0, 0, 0, 0, 0, 0, 0, 0, 0, 0, rfl⟩, x⟩

/-- The world of the loop: f at block w.heap.size, s behind it, the answer behind that, out at B. -/
structure STW (w wr : World) (B : Nat) (xs ss ys : List Int) (off : Int) (k : Nat) : Prop where
  f0 : wr.cell? ⟨w.heap.size, 0, none⟩ = some (.int .i64 xs.length)
  fl : ∀ j, j < 4 → wr.cell? ⟨w.heap.size, 1 + j, none⟩ = some (.int .i64 (xs.getD j 0))
  fs : ∀ j, j < 4 → wr.cell? ⟨w.heap.size, 5 + j, none⟩ = some (.int .i64 (ss.getD j 0))
  sl : ∀ j, j < 4 → wr.cell? ⟨w.heap.size + 1, 1 + j, none⟩ = some (.int .i64 (ys.getD j 0))
  r : ∀ j, j < 10 → wr.cell? ⟨w.heap.size + 1 + 1, j, none⟩ = some (.int .i64 0)
  o0 : wr.cell? ⟨B, 0, none⟩ = some (.int .i64 ys.length)
  ol : ∀ j, j < 4 → wr.cell? ⟨B, 1 + j, none⟩ = some (.int .i64 (ys.getD j 0))
  os : ∀ j, j < 4 → wr.cell? ⟨B, 5 + j, none⟩ = some (.int .i64 (if j < ys.length - xs.length + k then (bstr xs ss ys).getD j 0 else 0))
  o9 : wr.cell? ⟨B, 9, none⟩ = some (.int .i64 off)
  ex : Ext w wr

theorem STW.step {w wr : World} {B : Nat} {xs ss ys : List Int} {off : Int} {k : Nat} (h : STW w wr B xs ss ys off k) (hk : ys.length - xs.length + k < 4) (hB : w.heap.size + 2 < B) {v : Int} (hv : v = (bstr xs ss ys).getD (ys.length - xs.length + k) 0) :
    STW w (wr.setCell ⟨B, 5 + (ys.length - xs.length + k), none⟩ (.int .i64 v)) B xs ss ys off (k + 1) := by
  have m : Mut B wr (wr.setCell ⟨B, 5 + (ys.length - xs.length + k), none⟩ (.int .i64 v)) := (Mut.refl _ _).setCell _ _
  refine ⟨m.box (by omega) h.f0, fun j hj => m.box (by omega) (h.fl j hj), fun j hj => m.box (by omega) (h.fs j hj), fun j hj => m.box (by omega) (h.sl j hj), fun j hj => m.box (by omega) (h.r j hj), ?_, fun j hj => ?_, fun j hj => ?_, ?_, h.ex.setCell (by show w.heap.size ≤ B; omega) _⟩
  · rw [World.cell?_setCell_other _ _ _ _ (by intro h; simp only [Addr.mk.injEq] at h; omega)]; exact h.o0
  · rw [World.cell?_setCell_other _ _ _ _ (by intro h; simp only [Addr.mk.injEq] at h; omega)]; exact h.ol j hj
  · by_cases e : j = ys.length - xs.length + k
    · subst e
      rw [if_pos (by omega), hv]
      exact World.cell?_setCell_same _ _ _ (h.os _ hj)
    · rw [World.cell?_setCell_other _ _ _ _ (by intro h; simp only [Addr.mk.injEq] at h; omega), h.os j hj]
      by_cases h1 : j < ys.length - xs.length + k
      · rw [if_pos h1, if_pos (by omega)]
      · rw [if_neg h1, if_neg (by omega)]
  · rw [World.cell?_setCell_other _ _ _ _ (by intro h; simp only [Addr.mk.injEq] at h; omega)]; exact h.o9

/-- An axis that is stretched: nothing is written. -/
theorem STW.skip {w wr : World} {B : Nat} {xs ss ys : List Int} {off : Int} {k : Nat} (h : STW w wr B xs ss ys off k) (hk : ys.length - xs.length + k < 4) (hv : (bstr xs ss ys).getD (ys.length - xs.length + k) 0 = 0) :
    STW w wr B xs ss ys off (k + 1) := by
  refine ⟨h.f0, h.fl, h.fs, h.sl, h.r, h.o0, h.ol, fun j hj => ?_, h.o9, h.ex⟩
  rw [h.os j hj]
  by_cases e : j = ys.length - xs.length + k
  · subst e
    rw [if_neg (by omega), if_pos (by omega), hv]
  · by_cases h1 : j < ys.length - xs.length + k
    · rw [if_pos h1, if_pos (by omega)]
    · rw [if_neg h1, if_neg (by omega)]

set_option maxRecDepth 100000 in
set_option maxHeartbeats 2000000 in
theorem stretched_any (w : World) (xs ss ys : List Int) (off : Int) (hx4 : xs.length ≤ 4) (hy4 : ys.length ≤ 4) (hl : ss.length = xs.length) :
    Calls Try.prog 66 #[.agg (vw xs ss off), .agg (shp ys)] w fun e w' => StrOk w xs ss ys off e w' := by
  have x0 : Ext w (((w.alloc (.cells (vw xs ss off) 64)).alloc (.cells (shp ys) 62)).alloc (.cells #[.int .i64 0, .int .i64 0, .int .i64 0, .int .i64 0, .int .i64 0, .int .i64 0, .int .i64 0, .int .i64 0, .int .i64 0, .int .i64 0] 64)) := (((Ext.refl w).alloc _ _).alloc _ _).alloc _ _
  have y1 : Ext (w.alloc (.cells (vw xs ss off) 64)) (((w.alloc (.cells (vw xs ss off) 64)).alloc (.cells (shp ys) 62)).alloc (.cells #[.int .i64 0, .int .i64 0, .int .i64 0, .int .i64 0, .int .i64 0, .int .i64 0, .int .i64 0, .int .i64 0, .int .i64 0, .int .i64 0] 64)) := ((Ext.refl _).alloc _ _).alloc _ _
  have y2 : Ext ((w.alloc (.cells (vw xs ss off) 64)).alloc (.cells (shp ys) 62)) (((w.alloc (.cells (vw xs ss off) 64)).alloc (.cells (shp ys) 62)).alloc (.cells #[.int .i64 0, .int .i64 0, .int .i64 0, .int .i64 0, .int .i64 0, .int .i64 0, .int .i64 0, .int .i64 0, .int .i64 0, .int .i64 0] 64)) := (Ext.refl _).alloc _ _
  have n1 := fun j => new_cell w (vw xs ss off) 64 w.heap.size rfl j
  have n2 := fun j => new_cell (w.alloc (.cells (vw xs ss off) 64)) (shp ys) 62 (w.heap.size + 1) (by simp) j
  have n3 := fun j => new_cell ((w.alloc (.cells (vw xs ss off) 64)).alloc (.cells (shp ys) 62)) #[.int .i64 0, .int .i64 0, .int .i64 0, .int .i64 0, .int .i64 0, .int .i64 0, .int .i64 0, .int .i64 0, .int .i64 0, .int .i64 0] 64 (w.heap.size + 1 + 1) (by simp) j
  have f0 := y1.box (n1 0)
  have f9 := y1.box (n1 9)
  have s0 := y2.box (n2 0)
  have c1 := y2.box (n2 1)
  have c2 := y2.box (n2 2)
  have c3 := y2.box (n2 3)
  have c4 := y2.box (n2 4)
  have hfl : Hid (∀ j, j < 4 → (((w.alloc (.cells (vw xs ss off) 64)).alloc (.cells (shp ys) 62)).alloc (.cells #[.int .i64 0, .int .i64 0, .int .i64 0, .int .i64 0, .int .i64 0, .int .i64 0, .int .i64 0, .int .i64 0, .int .i64 0, .int .i64 0] 64)).cell? ⟨w.heap.size, 1 + j, none⟩ = some (.int .i64 (xs.getD j 0))) := fun j hj => by
    obtain rfl | rfl | rfl | rfl : j = 0 ∨ j = 1 ∨ j = 2 ∨ j = 3 := by omega
    exact y1.box (n1 1)
    exact y1.box (n1 2)
    exact y1.box (n1 3)
    exact y1.box (n1 4)
  have hfs : Hid (∀ j, j < 4 → (((w.alloc (.cells (vw xs ss off) 64)).alloc (.cells (shp ys) 62)).alloc (.cells #[.int .i64 0, .int .i64 0, .int .i64 0, .int .i64 0, .int .i64 0, .int .i64 0, .int .i64 0, .int .i64 0, .int .i64 0, .int .i64 0] 64)).cell? ⟨w.heap.size, 5 + j, none⟩ = some (.int .i64 (ss.getD j 0))) := fun j hj => by
    obtain rfl | rfl | rfl | rfl : j = 0 ∨ j = 1 ∨ j = 2 ∨ j = 3 := by omega
    exact y1.box (n1 5)
    exact y1.box (n1 6)
    exact y1.box (n1 7)
    exact y1.box (n1 8)
  have hsl : Hid (∀ j, j < 4 → (((w.alloc (.cells (vw xs ss off) 64)).alloc (.cells (shp ys) 62)).alloc (.cells #[.int .i64 0, .int .i64 0, .int .i64 0, .int .i64 0, .int .i64 0, .int .i64 0, .int .i64 0, .int .i64 0, .int .i64 0, .int .i64 0] 64)).cell? ⟨w.heap.size + 1, 1 + j, none⟩ = some (.int .i64 (ys.getD j 0))) := fun j hj => by
    obtain rfl | rfl | rfl | rfl : j = 0 ∨ j = 1 ∨ j = 2 ∨ j = 3 := by omega
    exact y2.box (n2 1)
    exact y2.box (n2 2)
    exact y2.box (n2 3)
    exact y2.box (n2 4)
  have hr : Hid (∀ j, j < 10 → (((w.alloc (.cells (vw xs ss off) 64)).alloc (.cells (shp ys) 62)).alloc (.cells #[.int .i64 0, .int .i64 0, .int .i64 0, .int .i64 0, .int .i64 0, .int .i64 0, .int .i64 0, .int .i64 0, .int .i64 0, .int .i64 0] 64)).cell? ⟨w.heap.size + 1 + 1, j, none⟩ = some (.int .i64 0)) := fun j hj => by
    obtain rfl | rfl | rfl | rfl | rfl | rfl | rfl | rfl | rfl | rfl : j = 0 ∨ j = 1 ∨ j = 2 ∨ j = 3 ∨ j = 4 ∨ j = 5 ∨ j = 6 ∨ j = 7 ∨ j = 8 ∨ j = 9 := by omega
    all_goals exact n3 _
  have X0 := hide x0
  have hz : Hid ((((w.alloc (.cells (vw xs ss off) 64)).alloc (.cells (shp ys) 62)).alloc (.cells #[.int .i64 0, .int .i64 0, .int .i64 0, .int .i64 0, .int .i64 0, .int .i64 0, .int .i64 0, .int .i64 0, .int .i64 0, .int .i64 0] 64)).heap.size = w.heap.size + 3) := by
    show (((w.alloc (.cells (vw xs ss off) 64)).alloc (.cells (shp ys) 62)).alloc (.cells #[.int .i64 0, .int .i64 0, .int .i64 0, .int .i64 0, .int .i64 0, .int .i64 0, .int .i64 0, .int .i64 0, .int .i64 0, .int .i64 0] 64)).heap.size = _; simp
  clear n1 n2 n3 y1 y2 x0
  have Hl := hide hl
  clear hl
  unfold vw shp at *
  generalize hxa0 : xs.getD 0 0 = a0 at f0 f9 X0 hz hfl hfs hsl hr s0 c1 c2 c3 c4 ⊢
  generalize hxa1 : xs.getD 1 0 = a1 at f0 f9 X0 hz hfl hfs hsl hr s0 c1 c2 c3 c4 ⊢
  generalize hxa2 : xs.getD 2 0 = a2 at f0 f9 X0 hz hfl hfs hsl hr s0 c1 c2 c3 c4 ⊢
  generalize hxa3 : xs.getD 3 0 = a3 at f0 f9 X0 hz hfl hfs hsl hr s0 c1 c2 c3 c4 ⊢
  generalize hsb0 : ss.getD 0 0 = b0 at f0 f9 X0 hz hfl hfs hsl hr s0 c1 c2 c3 c4 ⊢
  generalize hsb1 : ss.getD 1 0 = b1 at f0 f9 X0 hz hfl hfs hsl hr s0 c1 c2 c3 c4 ⊢
  generalize hsb2 : ss.getD 2 0 = b2 at f0 f9 X0 hz hfl hfs hsl hr s0 c1 c2 c3 c4 ⊢
  generalize hsb3 : ss.getD 3 0 = b3 at f0 f9 X0 hz hfl hfs hsl hr s0 c1 c2 c3 c4 ⊢
  generalize hyc0 : ys.getD 0 0 = d0 at f0 f9 X0 hz hfl hfs hsl hr s0 c1 c2 c3 c4 ⊢
  generalize hyc1 : ys.getD 1 0 = d1 at f0 f9 X0 hz hfl hfs hsl hr s0 c1 c2 c3 c4 ⊢
  generalize hyc2 : ys.getD 2 0 = d2 at f0 f9 X0 hz hfl hfs hsl hr s0 c1 c2 c3 c4 ⊢
  generalize hyc3 : ys.getD 3 0 = d3 at f0 f9 X0 hz hfl hfs hsl hr s0 c1 c2 c3 c4 ⊢
  have HY0 := hide hyc0
  have HY1 := hide hyc1
  have HY2 := hide hyc2
  have HY3 := hide hyc3
  clear hxa0 hxa1 hxa2 hxa3 hsb0 hsb1 hsb2 hsb3 hyc0 hyc1 hyc2 hyc3
  by_cases hlt : (ys.length : Int) < (xs.length : Int)
  · have Hn : Hid (¬ Strs xs ys) := fun q => by have := q.1; omega
    go_enter Try.func66, Try.ntmps66
    go_wp2
    have Zz := (zs (zs (zs (zs (zs (zs (zs (zs (zs (zs hr.out 0) 1) 2) 3) 4) 5) 6) 7) 8) 9)
    have e0 := Zz 0 (by omega)
    have e1 := Zz 1 (by omega)
    have e2 := Zz 2 (by omega)
    have e3 := Zz 3 (by omega)
    have e4 := Zz 4 (by omega)
    have e5 := Zz 5 (by omega)
    have e6 := Zz 6 (by omega)
    have e7 := Zz 7 (by omega)
    have e8 := Zz 8 (by omega)
    have e9 := Zz 9 (by omega)
    exact bodyPost_ret (v := .tuple #[.agg #[.int .i64 0, .int .i64 0, .int .i64 0, .int .i64 0, .int .i64 0, .int .i64 0, .int .i64 0, .int .i64 0, .int .i64 0, .int .i64 0], .bool false]) (by simp [results, Try.results66, go_sem, e0, e1, e2, e3, e4, e5, e6, e7, e8, e9]) rfl (bad_str Hn.out (by repeat (first | with_reducible exact X0.out | with_reducible refine Ext.setCell ?_ (by show w.heap.size ≤ w.heap.size + 1 + 1; omega) _)))
  · have h4' : (xs.length : Int) ≤ 4 := by omega
    obtain ⟨m, hm⟩ : ∃ m : Nat, ys.length - xs.length = m := ⟨_, rfl⟩
    have hmi : (ys.length : Int) - (xs.length : Int) = (m : Int) := by omega
    have Hm := hide hm
    clear hm
    go_enter Try.func66, Try.ntmps66
    go_wp2_with fail
    generalize hW : (((w.alloc (.cells #[.int .i64 xs.length, .int .i64 a0, .int .i64 a1, .int .i64 a2, .int .i64 a3, .int .i64 b0, .int .i64 b1, .int .i64 b2, .int .i64 b3, .int .i64 off] 64)).alloc (.cells #[.int .i64 ys.length, .int .i64 d0, .int .i64 d1, .int .i64 d2, .int .i64 d3] 62)).alloc (.cells #[.int .i64 0, .int .i64 0, .int .i64 0, .int .i64 0, .int .i64 0, .int .i64 0, .int .i64 0, .int .i64 0, .int .i64 0, .int .i64 0] 64)) = W0 at f0 f9 X0 hz hfl hfs hsl hr s0 c1 c2 c3 c4 ⊢
    clear hW
    try simp only [hmi]
    have Hmi := hide hmi
    clear hmi
    have y4 : Ext W0 (W0.alloc (.cells #[.int .i64 ys.length, .int .i64 d0, .int .i64 d1, .int .i64 d2, .int .i64 d3, .int .i64 0, .int .i64 0, .int .i64 0, .int .i64 0, .int .i64 off] 64)) := (Ext.refl W0).alloc _ _
    have n4 := fun j => new_cell W0 #[.int .i64 ys.length, .int .i64 d0, .int .i64 d1, .int .i64 d2, .int .i64 d3, .int .i64 0, .int .i64 0, .int .i64 0, .int .i64 0, .int .i64 off] 64 (w.heap.size + 1 + 1 + 1) (by rw [hz.out]) j
    have S0 : STW w (W0.alloc (.cells #[.int .i64 ys.length, .int .i64 d0, .int .i64 d1, .int .i64 d2, .int .i64 d3, .int .i64 0, .int .i64 0, .int .i64 0, .int .i64 0, .int .i64 off] 64)) (w.heap.size + 1 + 1 + 1) xs ss ys off 0 := by
      refine ⟨y4.box f0, fun j hj => y4.box (hfl.out j hj), fun j hj => y4.box (hfs.out j hj), fun j hj => y4.box (hsl.out j hj), fun j hj => y4.box (hr.out j hj), n4 0, fun j hj => ?_, fun j hj => ?_, n4 9, X0.out.trans y4⟩
      · obtain rfl | rfl | rfl | rfl : j = 0 ∨ j = 1 ∨ j = 2 ∨ j = 3 := by omega
        · rw [HY0.out]; exact n4 1
        · rw [HY1.out]; exact n4 2
        · rw [HY2.out]; exact n4 3
        · rw [HY3.out]; exact n4 4
      · have hz0 : (if j < ys.length - xs.length + 0 then (bstr xs ss ys).getD j 0 else 0) = 0 := by
          split
          · next h =>
            rw [bstr_getD, if_pos (by omega)]
            unfold strAt
            rw [if_pos (by omega)]
          · rfl
        rw [hz0]
        obtain rfl | rfl | rfl | rfl : j = 0 ∨ j = 1 ∨ j = 2 ∨ j = 3 := by omega
        · exact n4 5
        · exact n4 6
        · exact n4 7
        · exact n4 8
    have HS0 := hide S0
    have Hlt := hide hlt
    clear S0 n4 y4 f0 f9 s0 c1 c2 c3 c4 hfl hfs hsl hr X0 hz
    have HBB : Hid (w.heap.size + 2 < w.heap.size + 1 + 1 + 1) := by show w.heap.size + 2 < w.heap.size + 1 + 1 + 1; omega
    generalize hB : w.heap.size + 1 + 1 + 1 = B at HS0 HBB ⊢
    clear hB hlt
    go_loopw [34] (fun i wr => ∃ k : Nat, i = .int .i64 k ∧ k ≤ xs.length ∧ Hid (∀ j, j < k → (xs.getD j 0 = ys.getD (ys.length - xs.length + j) 0 ∨ xs.getD j 0 = 1)) ∧ STW w wr B xs ss ys off k) (fun i _ => xs.length - (intOf i).toNat)
    case atStart => exact ⟨0, rfl, by omega, fun j hj => absurd hj (Nat.not_lt_zero _), HS0.out⟩
    case round =>
      obtain ⟨k, rfl, hk, hin, hS⟩ := hrel
      have HS := hide hS
      clear hS
      by_cases hlt : k < xs.length
      · have hmy : ys.length = xs.length + m := by have := Hm.out; have := Hlt.out; omega
        obtain ⟨J, hJ⟩ : ∃ J : Nat, ys.length - xs.length + k = J := ⟨_, rfl⟩
        have hJi : (m : Int) + (k : Int) = (J : Int) := by have := Hm.out; omega
        have hJ4 : J < 4 := by omega
        have hJ44 : (J : Int) < 4 := by omega
        have hJ0 : (0 : Int) ≤ (J : Int) := Int.natCast_nonneg _
        have hk4 : k < 4 := by omega
        have hk0 : (0 : Int) ≤ (k : Int) := Int.natCast_nonneg _
        have hk1 : (k : Int) < (xs.length : Int) := by omega
        have hk44 : (k : Int) < 4 := by omega
        have q0 := HS.out.fl k hk4
        have q1 := HS.out.fs k hk4
        have q2 := HS.out.sl J hJ4
        have q3 := HS.out.os J hJ4
        have hJy : J < ys.length := by omega
        have hAt : (bstr xs ss ys).getD J 0 = if xs.getD k 0 = ys.getD J 0 then ss.getD k 0 else 0 := by
          rw [bstr_getD, if_pos hJy]
          unfold strAt
          rw [if_neg (by omega), show J - (ys.length - xs.length) = k by omega]
        rw [if_neg (by omega)] at q3
        have hstep := hide (fun v hv => HS.out.step (v := v) (by rw [hJ]; exact hJ4) HBB.out hv)
        have hskip := hide (HS.out.skip (by rw [hJ]; exact hJ4))
        rw [hJ] at hstep hskip
        have hin2 : Hid ((xs.getD k 0 = ys.getD J 0 ∨ xs.getD k 0 = 1) → ∀ j, j < k + 1 → (xs.getD j 0 = ys.getD (ys.length - xs.length + j) 0 ∨ xs.getD j 0 = 1)) := fun q j hj => by
          by_cases e : j = k
          · subst e; rw [hJ]; exact q
          · exact hin.out j (by omega)
        have hno : Hid (¬ (xs.getD k 0 = ys.getD J 0 ∨ xs.getD k 0 = 1) → ¬ Strs xs ys) := fun q g => q (by have := g.2 k hlt; rw [hJ] at this; exact this)
        rw [hAt] at hstep hskip
        clear hAt hJ hmy hJy
        generalize xs.getD k 0 = X at q0 hstep hskip hin2 hno
        generalize ys.getD J 0 = Y at q2 hstep hskip hin2 hno
        generalize ss.getD k 0 = V at q1 hstep hskip
        have sf := fun o => HS.out.ex.unfrozen (b := B) (by have := HBB.out; omega) o
        by_cases hXY : X = Y
        · subst hXY
          have HSt := hide (hstep.out V (by rw [if_pos rfl]))
          have hi3 := hide (hin2.out (Or.inl rfl))
          clear hstep hskip hin2 hno
          go_wp2
          go_roundw
          · exact ⟨k + 1, by go_num, by omega, hi3, HSt.out⟩
          · simp [intOf]; omega
        · have hne : (X == Y) = false := by simp [hXY]
          rw [if_neg hXY] at hskip
          have HSk := hide (hskip.out rfl)
          by_cases hX1 : X = 1
          · subst hX1
            have hi3 := hide (hin2.out (Or.inr rfl))
            clear hstep hskip hin2 hno hXY
            go_wp2
            go_roundw
            · exact ⟨k + 1, by go_num, by omega, hi3, HSk.out⟩
            · simp [intOf]; omega
          · have hne1 : (X != 1) = true := by simp [hX1]
            have Hno := hide (hno.out (fun q => q.elim hXY hX1))
            have rr0 := HS.out.r 0 (by omega)
            have rr1 := HS.out.r 1 (by omega)
            have rr2 := HS.out.r 2 (by omega)
            have rr3 := HS.out.r 3 (by omega)
            have rr4 := HS.out.r 4 (by omega)
            have rr5 := HS.out.r 5 (by omega)
            have rr6 := HS.out.r 6 (by omega)
            have rr7 := HS.out.r 7 (by omega)
            have rr8 := HS.out.r 8 (by omega)
            have rr9 := HS.out.r 9 (by omega)
            have rf2 := fun o => HS.out.ex.unfrozen (b := w.heap.size + 1 + 1) (by omega) o
            clear hstep hskip hin2 hno hXY hX1
            go_wp2
            have Zz := (zs (zs (zs (zs (zs (zs (zs (zs (zs (zs HS.out.r 0) 1) 2) 3) 4) 5) 6) 7) 8) 9)
            have e0 := Zz 0 (by omega)
            have e1 := Zz 1 (by omega)
            have e2 := Zz 2 (by omega)
            have e3 := Zz 3 (by omega)
            have e4 := Zz 4 (by omega)
            have e5 := Zz 5 (by omega)
            have e6 := Zz 6 (by omega)
            have e7 := Zz 7 (by omega)
            have e8 := Zz 8 (by omega)
            have e9 := Zz 9 (by omega)
            exact bodyPost_ret (v := .tuple #[.agg #[.int .i64 0, .int .i64 0, .int .i64 0, .int .i64 0, .int .i64 0, .int .i64 0, .int .i64 0, .int .i64 0, .int .i64 0, .int .i64 0], .bool false]) (by simp [results, Try.results66, go_sem, e0, e1, e2, e3, e4, e5, e6, e7, e8, e9]) rfl (bad_str Hno.out (by repeat (first | with_reducible exact HS.out.ex | with_reducible refine Ext.setCell ?_ (by show w.heap.size ≤ w.heap.size + 1 + 1; omega) _)))
      · have hkk : k = xs.length := by omega
        subst hkk
        have hst : Hid (Strs xs ys) := ⟨by have := Hlt.out; omega, fun j hj => hin.out j hj⟩
        have hsj : ∀ j, j < 4 → wr.cell? ⟨B, 5 + j, none⟩ = some (.int .i64 ((bstr xs ss ys).getD j 0)) := fun j hj => by
          rw [HS.out.os j hj]
          by_cases e : j < ys.length - xs.length + xs.length
          · rw [if_pos e]
          · rw [if_neg e, bstr_getD, if_neg (by omega)]
        have g0 := HS.out.o0
        have g1 : wr.cell? ⟨B, 1, none⟩ = _ := HS.out.ol 0 (by omega)
        have g2 : wr.cell? ⟨B, 2, none⟩ = _ := HS.out.ol 1 (by omega)
        have g3 : wr.cell? ⟨B, 3, none⟩ = _ := HS.out.ol 2 (by omega)
        have g4 : wr.cell? ⟨B, 4, none⟩ = _ := HS.out.ol 3 (by omega)
        have g5 : wr.cell? ⟨B, 5, none⟩ = _ := hsj 0 (by omega)
        have g6 : wr.cell? ⟨B, 6, none⟩ = _ := hsj 1 (by omega)
        have g7 : wr.cell? ⟨B, 7, none⟩ = _ := hsj 2 (by omega)
        have g8 : wr.cell? ⟨B, 8, none⟩ = _ := hsj 3 (by omega)
        have g9 := HS.out.o9
        clear hsj
        have rr0 := HS.out.r 0 (by omega)
        have rr1 := HS.out.r 1 (by omega)
        have rr2 := HS.out.r 2 (by omega)
        have rr3 := HS.out.r 3 (by omega)
        have rr4 := HS.out.r 4 (by omega)
        have rr5 := HS.out.r 5 (by omega)
        have rr6 := HS.out.r 6 (by omega)
        have rr7 := HS.out.r 7 (by omega)
        have rr8 := HS.out.r 8 (by omega)
        have rr9 := HS.out.r 9 (by omega)
        have rf2 := fun o => HS.out.ex.unfrozen (b := w.heap.size + 1 + 1) (by omega) o
        generalize hc0 : ys.getD 0 0 = c0 at g1
        have Hc0 := hide hc0
        clear hc0
        generalize hc1 : ys.getD 1 0 = c1 at g2
        have Hc1 := hide hc1
        clear hc1
        generalize hc2 : ys.getD 2 0 = c2 at g3
        have Hc2 := hide hc2
        clear hc2
        generalize hc3 : ys.getD 3 0 = c3 at g4
        have Hc3 := hide hc3
        clear hc3
        generalize he0 : (bstr xs ss ys).getD 0 0 = e0 at g5
        have He0 := hide he0
        clear he0
        generalize he1 : (bstr xs ss ys).getD 1 0 = e1 at g6
        have He1 := hide he1
        clear he1
        generalize he2 : (bstr xs ss ys).getD 2 0 = e2 at g7
        have He2 := hide he2
        clear he2
        generalize he3 : (bstr xs ss ys).getD 3 0 = e3 at g8
        have He3 := hide he3
        clear he3
        go_wp2
        have hy : ∀ j, j < 10 → wr.cell? ⟨w.heap.size + 1 + 1, j, none⟩ = some ((fun _ => (.int .i64 0 : Value)) j) := HS.out.r
        have Zz := (zt (zt (zt (zt (zt (zt (zt (zt (zt (zt hy 0 (.int .i64 (ys.length : Int))) 1 (.int .i64 c0)) 2 (.int .i64 c1)) 3 (.int .i64 c2)) 4 (.int .i64 c3)) 5 (.int .i64 e0)) 6 (.int .i64 e1)) 7 (.int .i64 e2)) 8 (.int .i64 e3)) 9 (.int .i64 off))
        have q0 : ((((((((((wr.setCell ⟨w.heap.size + 1 + 1, 0, none⟩ (.int .i64 (ys.length : Int))).setCell ⟨w.heap.size + 1 + 1, 1, none⟩ (.int .i64 c0)).setCell ⟨w.heap.size + 1 + 1, 2, none⟩ (.int .i64 c1)).setCell ⟨w.heap.size + 1 + 1, 3, none⟩ (.int .i64 c2)).setCell ⟨w.heap.size + 1 + 1, 4, none⟩ (.int .i64 c3)).setCell ⟨w.heap.size + 1 + 1, 5, none⟩ (.int .i64 e0)).setCell ⟨w.heap.size + 1 + 1, 6, none⟩ (.int .i64 e1)).setCell ⟨w.heap.size + 1 + 1, 7, none⟩ (.int .i64 e2)).setCell ⟨w.heap.size + 1 + 1, 8, none⟩ (.int .i64 e3)).setCell ⟨w.heap.size + 1 + 1, 9, none⟩ (.int .i64 off)).cell? ⟨w.heap.size + 1 + 1, 0, none⟩ = some (.int .i64 (ys.length : Int)) := (Zz 0 (by omega)).trans rfl
        have q1 : ((((((((((wr.setCell ⟨w.heap.size + 1 + 1, 0, none⟩ (.int .i64 (ys.length : Int))).setCell ⟨w.heap.size + 1 + 1, 1, none⟩ (.int .i64 c0)).setCell ⟨w.heap.size + 1 + 1, 2, none⟩ (.int .i64 c1)).setCell ⟨w.heap.size + 1 + 1, 3, none⟩ (.int .i64 c2)).setCell ⟨w.heap.size + 1 + 1, 4, none⟩ (.int .i64 c3)).setCell ⟨w.heap.size + 1 + 1, 5, none⟩ (.int .i64 e0)).setCell ⟨w.heap.size + 1 + 1, 6, none⟩ (.int .i64 e1)).setCell ⟨w.heap.size + 1 + 1, 7, none⟩ (.int .i64 e2)).setCell ⟨w.heap.size + 1 + 1, 8, none⟩ (.int .i64 e3)).setCell ⟨w.heap.size + 1 + 1, 9, none⟩ (.int .i64 off)).cell? ⟨w.heap.size + 1 + 1, 1, none⟩ = some (.int .i64 c0) := (Zz 1 (by omega)).trans rfl
        have q2 : ((((((((((wr.setCell ⟨w.heap.size + 1 + 1, 0, none⟩ (.int .i64 (ys.length : Int))).setCell ⟨w.heap.size + 1 + 1, 1, none⟩ (.int .i64 c0)).setCell ⟨w.heap.size + 1 + 1, 2, none⟩ (.int .i64 c1)).setCell ⟨w.heap.size + 1 + 1, 3, none⟩ (.int .i64 c2)).setCell ⟨w.heap.size + 1 + 1, 4, none⟩ (.int .i64 c3)).setCell ⟨w.heap.size + 1 + 1, 5, none⟩ (.int .i64 e0)).setCell ⟨w.heap.size + 1 + 1, 6, none⟩ (.int .i64 e1)).setCell ⟨w.heap.size + 1 + 1, 7, none⟩ (.int .i64 e2)).setCell ⟨w.heap.size + 1 + 1, 8, none⟩ (.int .i64 e3)).setCell ⟨w.heap.size + 1 + 1, 9, none⟩ (.int .i64 off)).cell? ⟨w.heap.size + 1 + 1, 2, none⟩ = some (.int .i64 c1) := (Zz 2 (by omega)).trans rfl
        have q3 : ((((((((((wr.setCell ⟨w.heap.size + 1 + 1, 0, none⟩ (.int .i64 (ys.length : Int))).setCell ⟨w.heap.size + 1 + 1, 1, none⟩ (.int .i64 c0)).setCell ⟨w.heap.size + 1 + 1, 2, none⟩ (.int .i64 c1)).setCell ⟨w.heap.size + 1 + 1, 3, none⟩ (.int .i64 c2)).setCell ⟨w.heap.size + 1 + 1, 4, none⟩ (.int .i64 c3)).setCell ⟨w.heap.size + 1 + 1, 5, none⟩ (.int .i64 e0)).setCell ⟨w.heap.size + 1 + 1, 6, none⟩ (.int .i64 e1)).setCell ⟨w.heap.size + 1 + 1, 7, none⟩ (.int .i64 e2)).setCell ⟨w.heap.size + 1 + 1, 8, none⟩ (.int .i64 e3)).setCell ⟨w.heap.size + 1 + 1, 9, none⟩ (.int .i64 off)).cell? ⟨w.heap.size + 1 + 1, 3, none⟩ = some (.int .i64 c2) := (Zz 3 (by omega)).trans rfl
        have q4 : ((((((((((wr.setCell ⟨w.heap.size + 1 + 1, 0, none⟩ (.int .i64 (ys.length : Int))).setCell ⟨w.heap.size + 1 + 1, 1, none⟩ (.int .i64 c0)).setCell ⟨w.heap.size + 1 + 1, 2, none⟩ (.int .i64 c1)).setCell ⟨w.heap.size + 1 + 1, 3, none⟩ (.int .i64 c2)).setCell ⟨w.heap.size + 1 + 1, 4, none⟩ (.int .i64 c3)).setCell ⟨w.heap.size + 1 + 1, 5, none⟩ (.int .i64 e0)).setCell ⟨w.heap.size + 1 + 1, 6, none⟩ (.int .i64 e1)).setCell ⟨w.heap.size + 1 + 1, 7, none⟩ (.int .i64 e2)).setCell ⟨w.heap.size + 1 + 1, 8, none⟩ (.int .i64 e3)).setCell ⟨w.heap.size + 1 + 1, 9, none⟩ (.int .i64 off)).cell? ⟨w.heap.size + 1 + 1, 4, none⟩ = some (.int .i64 c3) := (Zz 4 (by omega)).trans rfl
        have q5 : ((((((((((wr.setCell ⟨w.heap.size + 1 + 1, 0, none⟩ (.int .i64 (ys.length : Int))).setCell ⟨w.heap.size + 1 + 1, 1, none⟩ (.int .i64 c0)).setCell ⟨w.heap.size + 1 + 1, 2, none⟩ (.int .i64 c1)).setCell ⟨w.heap.size + 1 + 1, 3, none⟩ (.int .i64 c2)).setCell ⟨w.heap.size + 1 + 1, 4, none⟩ (.int .i64 c3)).setCell ⟨w.heap.size + 1 + 1, 5, none⟩ (.int .i64 e0)).setCell ⟨w.heap.size + 1 + 1, 6, none⟩ (.int .i64 e1)).setCell ⟨w.heap.size + 1 + 1, 7, none⟩ (.int .i64 e2)).setCell ⟨w.heap.size + 1 + 1, 8, none⟩ (.int .i64 e3)).setCell ⟨w.heap.size + 1 + 1, 9, none⟩ (.int .i64 off)).cell? ⟨w.heap.size + 1 + 1, 5, none⟩ = some (.int .i64 e0) := (Zz 5 (by omega)).trans rfl
        have q6 : ((((((((((wr.setCell ⟨w.heap.size + 1 + 1, 0, none⟩ (.int .i64 (ys.length : Int))).setCell ⟨w.heap.size + 1 + 1, 1, none⟩ (.int .i64 c0)).setCell ⟨w.heap.size + 1 + 1, 2, none⟩ (.int .i64 c1)).setCell ⟨w.heap.size + 1 + 1, 3, none⟩ (.int .i64 c2)).setCell ⟨w.heap.size + 1 + 1, 4, none⟩ (.int .i64 c3)).setCell ⟨w.heap.size + 1 + 1, 5, none⟩ (.int .i64 e0)).setCell ⟨w.heap.size + 1 + 1, 6, none⟩ (.int .i64 e1)).setCell ⟨w.heap.size + 1 + 1, 7, none⟩ (.int .i64 e2)).setCell ⟨w.heap.size + 1 + 1, 8, none⟩ (.int .i64 e3)).setCell ⟨w.heap.size + 1 + 1, 9, none⟩ (.int .i64 off)).cell? ⟨w.heap.size + 1 + 1, 6, none⟩ = some (.int .i64 e1) := (Zz 6 (by omega)).trans rfl
        have q7 : ((((((((((wr.setCell ⟨w.heap.size + 1 + 1, 0, none⟩ (.int .i64 (ys.length : Int))).setCell ⟨w.heap.size + 1 + 1, 1, none⟩ (.int .i64 c0)).setCell ⟨w.heap.size + 1 + 1, 2, none⟩ (.int .i64 c1)).setCell ⟨w.heap.size + 1 + 1, 3, none⟩ (.int .i64 c2)).setCell ⟨w.heap.size + 1 + 1, 4, none⟩ (.int .i64 c3)).setCell ⟨w.heap.size + 1 + 1, 5, none⟩ (.int .i64 e0)).setCell ⟨w.heap.size + 1 + 1, 6, none⟩ (.int .i64 e1)).setCell ⟨w.heap.size + 1 + 1, 7, none⟩ (.int .i64 e2)).setCell ⟨w.heap.size + 1 + 1, 8, none⟩ (.int .i64 e3)).setCell ⟨w.heap.size + 1 + 1, 9, none⟩ (.int .i64 off)).cell? ⟨w.heap.size + 1 + 1, 7, none⟩ = some (.int .i64 e2) := (Zz 7 (by omega)).trans rfl
        have q8 : ((((((((((wr.setCell ⟨w.heap.size + 1 + 1, 0, none⟩ (.int .i64 (ys.length : Int))).setCell ⟨w.heap.size + 1 + 1, 1, none⟩ (.int .i64 c0)).setCell ⟨w.heap.size + 1 + 1, 2, none⟩ (.int .i64 c1)).setCell ⟨w.heap.size + 1 + 1, 3, none⟩ (.int .i64 c2)).setCell ⟨w.heap.size + 1 + 1, 4, none⟩ (.int .i64 c3)).setCell ⟨w.heap.size + 1 + 1, 5, none⟩ (.int .i64 e0)).setCell ⟨w.heap.size + 1 + 1, 6, none⟩ (.int .i64 e1)).setCell ⟨w.heap.size + 1 + 1, 7, none⟩ (.int .i64 e2)).setCell ⟨w.heap.size + 1 + 1, 8, none⟩ (.int .i64 e3)).setCell ⟨w.heap.size + 1 + 1, 9, none⟩ (.int .i64 off)).cell? ⟨w.heap.size + 1 + 1, 8, none⟩ = some (.int .i64 e3) := (Zz 8 (by omega)).trans rfl
        have q9 : ((((((((((wr.setCell ⟨w.heap.size + 1 + 1, 0, none⟩ (.int .i64 (ys.length : Int))).setCell ⟨w.heap.size + 1 + 1, 1, none⟩ (.int .i64 c0)).setCell ⟨w.heap.size + 1 + 1, 2, none⟩ (.int .i64 c1)).setCell ⟨w.heap.size + 1 + 1, 3, none⟩ (.int .i64 c2)).setCell ⟨w.heap.size + 1 + 1, 4, none⟩ (.int .i64 c3)).setCell ⟨w.heap.size + 1 + 1, 5, none⟩ (.int .i64 e0)).setCell ⟨w.heap.size + 1 + 1, 6, none⟩ (.int .i64 e1)).setCell ⟨w.heap.size + 1 + 1, 7, none⟩ (.int .i64 e2)).setCell ⟨w.heap.size + 1 + 1, 8, none⟩ (.int .i64 e3)).setCell ⟨w.heap.size + 1 + 1, 9, none⟩ (.int .i64 off)).cell? ⟨w.heap.size + 1 + 1, 9, none⟩ = some (.int .i64 off) := (Zz 9 (by omega)).trans rfl
        exact bodyPost_ret (v := .tuple #[.agg #[.int .i64 (ys.length : Int), .int .i64 c0, .int .i64 c1, .int .i64 c2, .int .i64 c3, .int .i64 e0, .int .i64 e1, .int .i64 e2, .int .i64 e3, .int .i64 off], .bool true]) (by simp [results, Try.results66, go_sem, q0, q1, q2, q3, q4, q5, q6, q7, q8, q9]) rfl ⟨_, by rw [dcStrs_t hst.out], fun _ => by unfold vw; rw [Hc0.out, Hc1.out, Hc2.out, Hc3.out, He0.out, He1.out, He2.out, He3.out], ⟨_, _, _, _, _, _, _, _, _, _, rfl⟩, by repeat (first | with_reducible exact HS.out.ex | with_reducible refine Ext.setCell ?_ (by show w.heap.size ≤ w.heap.size + 1 + 1; omega) _)⟩
end Go.Proofs.Ytiekkninnjffpaa
