import Derived.Test.YtiekkninnjffpaaViewV
namespace Go.Proofs.Ytiekkninnjffpaa
open Go.ChangeShapes Go.RowKit
set_option linter.unusedSimpArgs false
set_option linter.unusedVariables false

theorem own_made {w W : World} (h : w.heap.size + 2 ≤ W.heap.size) : (W.alloc (.cells #[] 2)).ownsRow (w.heap.size + 2) 2 1 (.slice (some ⟨W.heap.size, 0, none⟩) 0 0) 0 [] :=
  World.ownsRow_made (base := w.heap.size + 2) (e := 2) (size := 1) W #[] 0 h (by unfold maxLen; omega) rfl
theorem OwnI.low {W : World} {lo l : Nat} {sa : Option Addr} {L : List Int} (h : OwnI W l sa L) (hl : lo ≤ l) : OwnI W lo sa L := by
  rcases h with h | ⟨g, h1, h2, h3⟩
  · exact Or.inl h
  · exact Or.inr ⟨g, h1, by omega, h3⟩
theorem OwnI.keep {W W' : World} {lo : Nat} {sa : Option Addr} {L : List Int} (h : OwnI W lo sa L) (x : Bel W W') : OwnI W' lo sa L := by
  by_cases e : L = []
  · exact Or.inl e
  rcases h with h | ⟨g, h1, h2, h3, h4⟩
  · exact Or.inl h
  · have hg : g < W.heap.size := cell_lt (h3 0 (List.length_pos_iff.2 e))
    exact Or.inr ⟨g, h1, h2, fun j hj => x.box (h3 j hj), fun o => (Below.frozen x (p := ⟨g, o, none⟩) hg).trans (h4 o)⟩
theorem OwnI.alloc {W : World} {lo : Nat} {sa : Option Addr} {L : List Int} (h : OwnI W lo sa L) : OwnI (W.alloc (.cells #[] 2)) lo sa L := h.keep ((Ext.refl W).alloc _ _).bl
theorem own_ne_new {W : World} {lo : Nat} {sa : Option Addr} {L : List Int} (h : OwnI W lo sa L) (hx : L ≠ []) : ∀ g, sa = some ⟨g, 0, none⟩ → g ≠ W.heap.size := fun g hg => by
  rcases h with h | ⟨g2, h1, h2, h3, h4⟩
  · exact absurd h hx
  · have : g2 < W.heap.size := cell_lt (h3 0 (List.length_pos_iff.2 hx))
    rw [h1] at hg
    simp at hg
    omega
theorem own_ge {W : World} {lo : Nat} {sa : Option Addr} {L : List Int} (h : OwnI W lo sa L) : L ≠ [] → ∀ g, sa = some ⟨g, 0, none⟩ → lo ≤ g := fun hx g hg => by
  rcases h with h | ⟨g2, h1, h2, h3, h4⟩
  · exact absurd h hx
  · rw [h1] at hg
    simp at hg
    omega
theorem own_ne_old {L : List Int} {W : World} {sa : Option Addr} (h : L ≠ [] → ∀ g, sa = some ⟨g, 0, none⟩ → (W.alloc (.cells #[] 2)).drew.heap.size ≤ g) (hx : L ≠ []) : ∀ g, sa = some ⟨g, 0, none⟩ → g ≠ W.heap.size := fun g hg => by
  have := h hx g hg
  simp [World.drew] at this
  omega
theorem view_two {xs ss : List Int} {P : Prop} (hl : ss.length = xs.length) (h : xs ≠ [] → ss ≠ [] → P) : (xs = [] ∧ ss = []) ∨ P := by
  by_cases e : xs = []
  · subst e; exact Or.inl ⟨rfl, List.eq_nil_of_length_eq_zero hl⟩
  · exact Or.inr (h e (fun q => e (List.eq_nil_of_length_eq_zero (by rw [← hl, q]; rfl))))
theorem far3 {W : World} {R j : Nat} {v0 v1 v2 u : Value} (h : W.cell? ⟨R, j, none⟩ = some u) :
    (((W.setCell ⟨R + 1, 0, none⟩ v0).setCell ⟨R + 1, 1, none⟩ v1).setCell ⟨R + 1, 2, none⟩ v2).cell? ⟨R, j, none⟩ = some u :=
  far1 (by omega) (far1 (by omega) (far1 (by omega) h))

theorem szk {W A : World} {k : Nat} (h : k ≤ W.heap.size) (hA : A = W.drew ∨ A = (W.alloc (.cells #[] 2)).drew) : k ≤ A.heap.size := by
  rcases hA with rfl | rfl
  · exact h
  · exact Nat.le_trans h (by simp [World.drew])
theorem frk {w W A W' : World} {n a0 a1 a2 a3 b0 b1 b2 b3 off : Int} (h : FR w W n a0 a1 a2 a3 b0 b1 b2 b3 off) (hA : A = W.drew ∨ A = (W.alloc (.cells #[] 2)).drew) (x : Bel A W') : FR w W' n a0 a1 a2 a3 b0 b1 b2 b3 off := by
  rcases hA with rfl | rfl
  · exact (h.keep (bel_drew W)).keep x
  · exact ((h.alloc #[] 2).keep (bel_drew _)).keep x
theorem own_made2 {w W : World} (h : w.heap.size + 2 ≤ W.heap.size) : (W.alloc (.cells #[] 2)).drew.ownsRow (w.heap.size + 2) 2 1 (.slice (some ⟨W.heap.size, 0, none⟩) 0 0) 0 [] :=
  own_below (own_made h) (bel_drew _) (fun g hg => by simp [Value.ownBlock] at hg; subst hg; simp)
theorem near {W : World} {R i j : Nat} {v u : Value} (hne : i ≠ j) (h : W.cell? ⟨R, j, none⟩ = some u) : (W.setCell ⟨R, i, none⟩ v).cell? ⟨R, j, none⟩ = some u := by
  rw [World.cell?_setCell_other _ _ _ _ (by intro h; simp only [Addr.mk.injEq] at h; omega)]; exact h
theorem set3_0 {W : World} {R : Nat} {v0 v1 v2 u : Value} (h : W.cell? ⟨R, 0, none⟩ = some u) : (((W.setCell ⟨R, 0, none⟩ v0).setCell ⟨R, 1, none⟩ v1).setCell ⟨R, 2, none⟩ v2).cell? ⟨R, 0, none⟩ = some v0 :=
  near (by omega) (near (by omega) (World.cell?_setCell_same _ _ _ h))
theorem set3_1 {W : World} {R : Nat} {v0 v1 v2 u : Value} (h : W.cell? ⟨R, 1, none⟩ = some u) : (((W.setCell ⟨R, 0, none⟩ v0).setCell ⟨R, 1, none⟩ v1).setCell ⟨R, 2, none⟩ v2).cell? ⟨R, 1, none⟩ = some v1 :=
  near (by omega) (World.cell?_setCell_same _ _ _ (near (by omega) h))
theorem set3_2 {W : World} {R : Nat} {v0 v1 v2 u : Value} (h : W.cell? ⟨R, 2, none⟩ = some u) : (((W.setCell ⟨R, 0, none⟩ v0).setCell ⟨R, 1, none⟩ v1).setCell ⟨R, 2, none⟩ v2).cell? ⟨R, 2, none⟩ = some v2 :=
  World.cell?_setCell_same _ _ _ (near (by omega) (near (by omega) h))

set_option maxRecDepth 100000 in
set_option maxHeartbeats 4000000 in
theorem view_any (w : World) (xs ss : List Int) (off : Int) (h4 : xs.length ≤ 4) (hl : ss.length = xs.length) :
    Calls Try.prog 64 #[.agg (vw xs ss off)] w fun e w' => VOk w xs ss off e w' := by
  obtain ⟨i0, hi0, hz0, hz1, hz2⟩ := info_parts info2
  have hone : 0 < 1 := Nat.one_pos
  have Hl := hide hl
  have Hs4 : Hid (ss.length ≤ 4) := by show ss.length ≤ 4; omega
  have hM63 : 0 + xs.length ≤ maxLen := by unfold maxLen; omega
  have hM8 : (0 + xs.length) * 8 ≤ 140737488355328 := by omega
  clear hl
  have h4' : (xs.length : Int) ≤ 4 := by omega
  have hL : Hid (∀ W, Calls Try.prog 57 #[.agg (shp xs)] W fun e w' => ListOk W xs e w') := fun W => list_any W xs h4
  unfold vw
  unfold shp at hL
  generalize hxa0 : xs.getD 0 0 = a0 at hL ⊢
  generalize hxa1 : xs.getD 1 0 = a1 at hL ⊢
  generalize hxa2 : xs.getD 2 0 = a2 at hL ⊢
  generalize hxa3 : xs.getD 3 0 = a3 at hL ⊢
  generalize hsb0 : ss.getD 0 0 = b0
  generalize hsb1 : ss.getD 1 0 = b1
  generalize hsb2 : ss.getD 2 0 = b2
  generalize hsb3 : ss.getD 3 0 = b3
  have E0 := hide hsb0
  have E1 := hide hsb1
  have E2 := hide hsb2
  have E3 := hide hsb3
  clear hxa0 hxa1 hxa2 hxa3 hsb0 hsb1 hsb2 hsb3
  generalize hn : (xs.length : Int) = n at hL h4' ⊢
  have x0 : Ext w ((w.alloc (.cells #[.int .i64 n, .int .i64 a0, .int .i64 a1, .int .i64 a2, .int .i64 a3, .int .i64 b0, .int .i64 b1, .int .i64 b2, .int .i64 b3, .int .i64 off] 64)).alloc (.cells #[.slice none 0 0, .slice none 0 0, .int .i64 0] 27)) := ((Ext.refl w).alloc _ _).alloc _ _
  have y1 : Ext (w.alloc (.cells #[.int .i64 n, .int .i64 a0, .int .i64 a1, .int .i64 a2, .int .i64 a3, .int .i64 b0, .int .i64 b1, .int .i64 b2, .int .i64 b3, .int .i64 off] 64)) ((w.alloc (.cells #[.int .i64 n, .int .i64 a0, .int .i64 a1, .int .i64 a2, .int .i64 a3, .int .i64 b0, .int .i64 b1, .int .i64 b2, .int .i64 b3, .int .i64 off] 64)).alloc (.cells #[.slice none 0 0, .slice none 0 0, .int .i64 0] 27)) := (Ext.refl _).alloc _ _
  have n1 := fun j => new_cell w #[.int .i64 n, .int .i64 a0, .int .i64 a1, .int .i64 a2, .int .i64 a3, .int .i64 b0, .int .i64 b1, .int .i64 b2, .int .i64 b3, .int .i64 off] 64 w.heap.size rfl j
  have n2 := fun j => new_cell (w.alloc (.cells #[.int .i64 n, .int .i64 a0, .int .i64 a1, .int .i64 a2, .int .i64 a3, .int .i64 b0, .int .i64 b1, .int .i64 b2, .int .i64 b3, .int .i64 off] 64)) #[.slice none 0 0, .slice none 0 0, .int .i64 0] 27 (w.heap.size + 1) (by simp) j
  have FF : Hid (FR w ((w.alloc (.cells #[.int .i64 n, .int .i64 a0, .int .i64 a1, .int .i64 a2, .int .i64 a3, .int .i64 b0, .int .i64 b1, .int .i64 b2, .int .i64 b3, .int .i64 off] 64)).alloc (.cells #[.slice none 0 0, .slice none 0 0, .int .i64 0] 27)) n a0 a1 a2 a3 b0 b1 b2 b3 off) :=
    ⟨y1.box (n1 0), y1.box (n1 1), y1.box (n1 2), y1.box (n1 3), y1.box (n1 4), y1.box (n1 5), y1.box (n1 6), y1.box (n1 7), y1.box (n1 8), y1.box (n1 9), n2 0, n2 1, n2 2, fun o => x0.unfrozen (by omega) o, by simp, x0.bl⟩
  clear x0 y1 n1 n2
  go_enter Try.func64, Try.ntmps64
  go_wp2_with fail
  generalize hW : ((w.alloc (.cells #[.int .i64 n, .int .i64 a0, .int .i64 a1, .int .i64 a2, .int .i64 a3, .int .i64 b0, .int .i64 b1, .int .i64 b2, .int .i64 b3, .int .i64 off] 64)).alloc (.cells #[.slice none 0 0, .slice none 0 0, .int .i64 0] 27)) = W0 at FF ⊢
  clear hW
  have FD := hide (FF.out.keep (bel_drew W0))
  have SA : Hid ((fun w' => w'.cell? ⟨w.heap.size, 0, none⟩ = some (.int .i64 n) ∧ w'.cell? ⟨w.heap.size, 1, none⟩ = some (.int .i64 a0) ∧ w'.cell? ⟨w.heap.size, 2, none⟩ = some (.int .i64 a1) ∧ w'.cell? ⟨w.heap.size, 3, none⟩ = some (.int .i64 a2) ∧ w'.cell? ⟨w.heap.size, 4, none⟩ = some (.int .i64 a3) ∧ w'.cell? ⟨w.heap.size, 5, none⟩ = some (.int .i64 b0) ∧ w'.cell? ⟨w.heap.size, 6, none⟩ = some (.int .i64 b1) ∧ w'.cell? ⟨w.heap.size, 7, none⟩ = some (.int .i64 b2) ∧ w'.cell? ⟨w.heap.size, 8, none⟩ = some (.int .i64 b3) ∧ w'.cell? ⟨w.heap.size, 9, none⟩ = some (.int .i64 off)) W0.drew) := ⟨FD.out.c0, FD.out.c1, FD.out.c2, FD.out.c3, FD.out.c4, FD.out.c5, FD.out.c6, FD.out.c7, FD.out.c8, FD.out.c9⟩
  have SD : Hid ((fun w' => w'.cell? ⟨w.heap.size, 0, none⟩ = some (.int .i64 n) ∧ w'.cell? ⟨w.heap.size, 1, none⟩ = some (.int .i64 a0) ∧ w'.cell? ⟨w.heap.size, 2, none⟩ = some (.int .i64 a1) ∧ w'.cell? ⟨w.heap.size, 3, none⟩ = some (.int .i64 a2) ∧ w'.cell? ⟨w.heap.size, 4, none⟩ = some (.int .i64 a3) ∧ w'.cell? ⟨w.heap.size, 5, none⟩ = some (.int .i64 b0) ∧ w'.cell? ⟨w.heap.size, 6, none⟩ = some (.int .i64 b1) ∧ w'.cell? ⟨w.heap.size, 7, none⟩ = some (.int .i64 b2) ∧ w'.cell? ⟨w.heap.size, 8, none⟩ = some (.int .i64 b3) ∧ w'.cell? ⟨w.heap.size, 9, none⟩ = some (.int .i64 off)) (W0.alloc (.cells #[] 2)).drew) := ⟨((FF.out.alloc #[] 2).keep (bel_drew _)).c0, ((FF.out.alloc #[] 2).keep (bel_drew _)).c1, ((FF.out.alloc #[] 2).keep (bel_drew _)).c2, ((FF.out.alloc #[] 2).keep (bel_drew _)).c3, ((FF.out.alloc #[] 2).keep (bel_drew _)).c4, ((FF.out.alloc #[] 2).keep (bel_drew _)).c5, ((FF.out.alloc #[] 2).keep (bel_drew _)).c6, ((FF.out.alloc #[] 2).keep (bel_drew _)).c7, ((FF.out.alloc #[] 2).keep (bel_drew _)).c8, ((FF.out.alloc #[] 2).keep (bel_drew _)).c9⟩
  have hn0 : 0 ≤ n := by omega
  have hnt : n.toNat = xs.length := by omega
  have Hn := hide hn
  clear hn
  go_region_held3 (fun w' => w'.cell? ⟨w.heap.size, 0, none⟩ = some (.int .i64 n) ∧ w'.cell? ⟨w.heap.size, 1, none⟩ = some (.int .i64 a0) ∧ w'.cell? ⟨w.heap.size, 2, none⟩ = some (.int .i64 a1) ∧ w'.cell? ⟨w.heap.size, 3, none⟩ = some (.int .i64 a2) ∧ w'.cell? ⟨w.heap.size, 4, none⟩ = some (.int .i64 a3) ∧ w'.cell? ⟨w.heap.size, 5, none⟩ = some (.int .i64 b0) ∧ w'.cell? ⟨w.heap.size, 6, none⟩ = some (.int .i64 b1) ∧ w'.cell? ⟨w.heap.size, 7, none⟩ = some (.int .i64 b2) ∧ w'.cell? ⟨w.heap.size, 8, none⟩ = some (.int .i64 b3) ∧ w'.cell? ⟨w.heap.size, 9, none⟩ = some (.int .i64 off)) (first | with_reducible exact SA.out | with_reducible exact SL.out | with_reducible exact SD.out | with_reducible exact SM.out | with_reducible exact S5.out | with_reducible exact S6.out | exact SD.out | fail) (first | (go_at_call 57; refine (hL.out _).mono ?_; rintro e w3 ⟨sa, ca, rfl, hO, hB3⟩; have F3 : Hid (FR w w3 n a0 a1 a2 a3 b0 b1 b2 b3 off) := frk FF.out (by first | with_reducible exact Or.inl rfl | with_reducible exact Or.inr rfl) hB3; have SL : Hid ((fun w' => w'.cell? ⟨w.heap.size, 0, none⟩ = some (.int .i64 n) ∧ w'.cell? ⟨w.heap.size, 1, none⟩ = some (.int .i64 a0) ∧ w'.cell? ⟨w.heap.size, 2, none⟩ = some (.int .i64 a1) ∧ w'.cell? ⟨w.heap.size, 3, none⟩ = some (.int .i64 a2) ∧ w'.cell? ⟨w.heap.size, 4, none⟩ = some (.int .i64 a3) ∧ w'.cell? ⟨w.heap.size, 5, none⟩ = some (.int .i64 b0) ∧ w'.cell? ⟨w.heap.size, 6, none⟩ = some (.int .i64 b1) ∧ w'.cell? ⟨w.heap.size, 7, none⟩ = some (.int .i64 b2) ∧ w'.cell? ⟨w.heap.size, 8, none⟩ = some (.int .i64 b3) ∧ w'.cell? ⟨w.heap.size, 9, none⟩ = some (.int .i64 off)) w3) := ⟨F3.out.c0, F3.out.c1, F3.out.c2, F3.out.c3, F3.out.c4, F3.out.c5, F3.out.c6, F3.out.c7, F3.out.c8, F3.out.c9⟩; have SM : Hid ((fun w' => w'.cell? ⟨w.heap.size, 0, none⟩ = some (.int .i64 n) ∧ w'.cell? ⟨w.heap.size, 1, none⟩ = some (.int .i64 a0) ∧ w'.cell? ⟨w.heap.size, 2, none⟩ = some (.int .i64 a1) ∧ w'.cell? ⟨w.heap.size, 3, none⟩ = some (.int .i64 a2) ∧ w'.cell? ⟨w.heap.size, 4, none⟩ = some (.int .i64 a3) ∧ w'.cell? ⟨w.heap.size, 5, none⟩ = some (.int .i64 b0) ∧ w'.cell? ⟨w.heap.size, 6, none⟩ = some (.int .i64 b1) ∧ w'.cell? ⟨w.heap.size, 7, none⟩ = some (.int .i64 b2) ∧ w'.cell? ⟨w.heap.size, 8, none⟩ = some (.int .i64 b3) ∧ w'.cell? ⟨w.heap.size, 9, none⟩ = some (.int .i64 off)) (w3.alloc (.cells #[] 2))) := ⟨(F3.out.alloc #[] 2).c0, (F3.out.alloc #[] 2).c1, (F3.out.alloc #[] 2).c2, (F3.out.alloc #[] 2).c3, (F3.out.alloc #[] 2).c4, (F3.out.alloc #[] 2).c5, (F3.out.alloc #[] 2).c6, (F3.out.alloc #[] 2).c7, (F3.out.alloc #[] 2).c8, (F3.out.alloc #[] 2).c9⟩; have H3 : Hid (OwnI w3 (w.heap.size + 2) sa xs) := hO.low (szk FF.out.sz (by first | with_reducible exact Or.inl rfl | with_reducible exact Or.inr rfl)); have HB := hide (own_ge hO); have HB3 := hide hB3; clear hO hB3) | (refine step_append_at _ (by rfl) (.tmp 6) (.tmp 11) 22 (by rfl) (w.heap.size + 2) 2 i0 (.int .i64 0) 1 8 Try.underlying22 hi0 hz0 hz1 hz2 rfl hone (.slice (some ⟨w3.heap.size, 0, none⟩) 0 0) 0 [] (by rfl) (own_made F3.out.sz) ⟨w.heap.size, 5, none⟩ xs.length 4 (ss.map (Value.int .i64)) (by rfl) (map_len Hl.out) ((F3.out.alloc #[] 2).news Hs4.out E0.out E1.out E2.out E3.out) (one_cells ss) hM63 hM8 (F3.out.alloc #[] 2).sz ?_; intro v5 w5 hown5 hgrow5 hat5; obtain ⟨sb, cb, rfl, hO5⟩ := own_of (w := w) (L := ss) (by omega) hown5; have F5 := hide ((F3.out.alloc #[] 2).grown hgrow5 (by have := FF.out.sz; have := F3.out.sz; first | omega | (simp; omega))); have HT : Hid ((xs = [] ∧ ss = []) ∨ Two (w.heap.size + 2) w5 (.slice sa xs.length ca) (.slice sb ss.length cb) xs ss) := view_two Hl.out (fun hx hs => two_of hx hs (OwnI.alloc H3.out) (own_ne_new H3.out hx) F3.out.sz (by simp) hown5 hgrow5 hat5); have S5 : Hid ((fun w' => w'.cell? ⟨w.heap.size, 0, none⟩ = some (.int .i64 n) ∧ w'.cell? ⟨w.heap.size, 1, none⟩ = some (.int .i64 a0) ∧ w'.cell? ⟨w.heap.size, 2, none⟩ = some (.int .i64 a1) ∧ w'.cell? ⟨w.heap.size, 3, none⟩ = some (.int .i64 a2) ∧ w'.cell? ⟨w.heap.size, 4, none⟩ = some (.int .i64 a3) ∧ w'.cell? ⟨w.heap.size, 5, none⟩ = some (.int .i64 b0) ∧ w'.cell? ⟨w.heap.size, 6, none⟩ = some (.int .i64 b1) ∧ w'.cell? ⟨w.heap.size, 7, none⟩ = some (.int .i64 b2) ∧ w'.cell? ⟨w.heap.size, 8, none⟩ = some (.int .i64 b3) ∧ w'.cell? ⟨w.heap.size, 9, none⟩ = some (.int .i64 off)) w5) := ⟨F5.out.c0, F5.out.c1, F5.out.c2, F5.out.c3, F5.out.c4, F5.out.c5, F5.out.c6, F5.out.c7, F5.out.c8, F5.out.c9⟩; have S6 : Hid ((fun w' => w'.cell? ⟨w.heap.size, 0, none⟩ = some (.int .i64 n) ∧ w'.cell? ⟨w.heap.size, 1, none⟩ = some (.int .i64 a0) ∧ w'.cell? ⟨w.heap.size, 2, none⟩ = some (.int .i64 a1) ∧ w'.cell? ⟨w.heap.size, 3, none⟩ = some (.int .i64 a2) ∧ w'.cell? ⟨w.heap.size, 4, none⟩ = some (.int .i64 a3) ∧ w'.cell? ⟨w.heap.size, 5, none⟩ = some (.int .i64 b0) ∧ w'.cell? ⟨w.heap.size, 6, none⟩ = some (.int .i64 b1) ∧ w'.cell? ⟨w.heap.size, 7, none⟩ = some (.int .i64 b2) ∧ w'.cell? ⟨w.heap.size, 8, none⟩ = some (.int .i64 b3) ∧ w'.cell? ⟨w.heap.size, 9, none⟩ = some (.int .i64 off)) (((w5.setCell ⟨w.heap.size + 1, 0, none⟩ (.slice sa xs.length ca)).setCell ⟨w.heap.size + 1, 1, none⟩ (.slice sb ss.length cb)).setCell ⟨w.heap.size + 1, 2, none⟩ (.int .i64 off))) := ⟨far3 F5.out.c0, far3 F5.out.c1, far3 F5.out.c2, far3 F5.out.c3, far3 F5.out.c4, far3 F5.out.c5, far3 F5.out.c6, far3 F5.out.c7, far3 F5.out.c8, far3 F5.out.c9⟩; have u0 := F5.out.r0; have u1 := F5.out.r1; have u2 := F5.out.r2; have uf := F5.out.rf; clear hown5 hgrow5 hat5 hO5) | (refine step_append_at _ (by rfl) (.tmp 6) (.tmp 11) 22 (by rfl) (w.heap.size + 2) 2 i0 (.int .i64 0) 1 8 Try.underlying22 hi0 hz0 hz1 hz2 rfl hone (.slice (some ⟨W0.heap.size, 0, none⟩) 0 0) 0 [] (by rfl) (own_below (own_made2 FF.out.sz) HB3.out (fun g hg => by simp [Value.ownBlock] at hg; subst hg; simp [World.drew])) ⟨w.heap.size, 5, none⟩ xs.length 4 (ss.map (Value.int .i64)) (by rfl) (map_len Hl.out) (F3.out.news Hs4.out E0.out E1.out E2.out E3.out) (one_cells ss) hM63 hM8 F3.out.sz ?_; intro v5 w5 hown5 hgrow5 hat5; obtain ⟨sb, cb, rfl, hO5⟩ := own_of (w := w) (L := ss) (by omega) hown5; have F5 := hide (F3.out.grown hgrow5 (by have := FF.out.sz; have := F3.out.sz; first | omega | (simp; omega))); have HT : Hid ((xs = [] ∧ ss = []) ∨ Two (w.heap.size + 2) w5 (.slice sa xs.length ca) (.slice sb ss.length cb) xs ss) := view_two Hl.out (fun hx hs => two_of hx hs H3.out (own_ne_old HB.out hx) FF.out.sz (by have := Below.size HB3.out; simp [World.drew] at this; omega) hown5 hgrow5 hat5); have S5 : Hid ((fun w' => w'.cell? ⟨w.heap.size, 0, none⟩ = some (.int .i64 n) ∧ w'.cell? ⟨w.heap.size, 1, none⟩ = some (.int .i64 a0) ∧ w'.cell? ⟨w.heap.size, 2, none⟩ = some (.int .i64 a1) ∧ w'.cell? ⟨w.heap.size, 3, none⟩ = some (.int .i64 a2) ∧ w'.cell? ⟨w.heap.size, 4, none⟩ = some (.int .i64 a3) ∧ w'.cell? ⟨w.heap.size, 5, none⟩ = some (.int .i64 b0) ∧ w'.cell? ⟨w.heap.size, 6, none⟩ = some (.int .i64 b1) ∧ w'.cell? ⟨w.heap.size, 7, none⟩ = some (.int .i64 b2) ∧ w'.cell? ⟨w.heap.size, 8, none⟩ = some (.int .i64 b3) ∧ w'.cell? ⟨w.heap.size, 9, none⟩ = some (.int .i64 off)) w5) := ⟨F5.out.c0, F5.out.c1, F5.out.c2, F5.out.c3, F5.out.c4, F5.out.c5, F5.out.c6, F5.out.c7, F5.out.c8, F5.out.c9⟩; have S6 : Hid ((fun w' => w'.cell? ⟨w.heap.size, 0, none⟩ = some (.int .i64 n) ∧ w'.cell? ⟨w.heap.size, 1, none⟩ = some (.int .i64 a0) ∧ w'.cell? ⟨w.heap.size, 2, none⟩ = some (.int .i64 a1) ∧ w'.cell? ⟨w.heap.size, 3, none⟩ = some (.int .i64 a2) ∧ w'.cell? ⟨w.heap.size, 4, none⟩ = some (.int .i64 a3) ∧ w'.cell? ⟨w.heap.size, 5, none⟩ = some (.int .i64 b0) ∧ w'.cell? ⟨w.heap.size, 6, none⟩ = some (.int .i64 b1) ∧ w'.cell? ⟨w.heap.size, 7, none⟩ = some (.int .i64 b2) ∧ w'.cell? ⟨w.heap.size, 8, none⟩ = some (.int .i64 b3) ∧ w'.cell? ⟨w.heap.size, 9, none⟩ = some (.int .i64 off)) (((w5.setCell ⟨w.heap.size + 1, 0, none⟩ (.slice sa xs.length ca)).setCell ⟨w.heap.size + 1, 1, none⟩ (.slice sb ss.length cb)).setCell ⟨w.heap.size + 1, 2, none⟩ (.int .i64 off))) := ⟨far3 F5.out.c0, far3 F5.out.c1, far3 F5.out.c2, far3 F5.out.c3, far3 F5.out.c4, far3 F5.out.c5, far3 F5.out.c6, far3 F5.out.c7, far3 F5.out.c8, far3 F5.out.c9⟩; have u0 := F5.out.r0; have u1 := F5.out.r1; have u2 := F5.out.r2; have uf := F5.out.rf; clear hown5 hgrow5 hat5 hO5) | fail)
  all_goals go_wp2
  all_goals
    have q0 : (((w5.setCell ⟨w.heap.size + 1, 0, none⟩ (.slice sa xs.length ca)).setCell ⟨w.heap.size + 1, 1, none⟩ (.slice sb ss.length cb)).setCell ⟨w.heap.size + 1, 2, none⟩ (.int .i64 off)).cell? ⟨w.heap.size + 1, 0, none⟩ = some (.slice sa xs.length ca) := set3_0 F5.out.r0
    have q1 : (((w5.setCell ⟨w.heap.size + 1, 0, none⟩ (.slice sa xs.length ca)).setCell ⟨w.heap.size + 1, 1, none⟩ (.slice sb ss.length cb)).setCell ⟨w.heap.size + 1, 2, none⟩ (.int .i64 off)).cell? ⟨w.heap.size + 1, 1, none⟩ = some (.slice sb ss.length cb) := set3_1 F5.out.r1
    have q2 : (((w5.setCell ⟨w.heap.size + 1, 0, none⟩ (.slice sa xs.length ca)).setCell ⟨w.heap.size + 1, 1, none⟩ (.slice sb ss.length cb)).setCell ⟨w.heap.size + 1, 2, none⟩ (.int .i64 off)).cell? ⟨w.heap.size + 1, 2, none⟩ = some (.int .i64 off) := set3_2 F5.out.r2
    exact bodyPost_ret (v := .agg #[.slice sa xs.length ca, .slice sb ss.length cb, .int .i64 off]) (by simp [results, Try.results64, go_sem, q0, q1, q2]) rfl (view_done F5.out HT.out)
end Go.Proofs.Ytiekkninnjffpaa
