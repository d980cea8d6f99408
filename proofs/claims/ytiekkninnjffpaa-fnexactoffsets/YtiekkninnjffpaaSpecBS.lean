import Derived.Test.YtiekkninnjffpaaJoin2
import Derived.Laws.AppendOwn
namespace Go.Proofs.Ytiekkninnjffpaa
open Go.ChangeShapes Go.RowKit
set_option linter.unusedSimpArgs false
set_option linter.unusedVariables false

theorem cell_one_new (w : World) (x : Value) (t : TypeId) : ∀ j u, [x][j]? = some u → (w.alloc (.cells #[x] t)).cell? ((⟨w.heap.size, 0, none⟩ : Addr).add j) = some u := by
  intro j u hu
  have hj : j = 0 := by
    have := (List.getElem?_eq_some_iff.1 hu).1
    simpa using this
  subst hj
  simp at hu
  subst hu
  simp [Addr.add]

theorem Ints.below {w w' : World} {v : Value} {xs : List Int} (h : Ints w v xs) (x : Below w.heap.size w w') : Ints w' v xs := by
  obtain ⟨sa, cap, rfl, h⟩ := h
  refine ⟨sa, cap, rfl, ?_⟩
  rcases h with h | ⟨b, off, h1, h2⟩
  · exact Or.inl h
  · exact Or.inr ⟨b, off, h1, fun j hj => by rw [x.cell (p := ⟨b, off + j, none⟩) (cell_lt (h2 j hj))]; exact h2 j hj⟩

/-- An owned row of integers. -/
theorem row_of_own {w : World} {base g n cap : Nat} {L : List Int} (h : w.ownsRow base 2 1 (.slice (some ⟨g, 0, none⟩) n cap) n (L.map (Value.int .i64))) : Row w g 0 L ∧ n = L.length := by
  have hl : n = L.length := by have := h.1; simp at this; omega
  refine ⟨fun j hj => ?_, hl⟩
  rw [Nat.zero_add, h.cellAt j (by omega), List.getElem?_map, List.getElem?_eq_getElem hj, List.getD_eq_getElem?_getD, List.getElem?_eq_getElem hj]
  rfl

def bsL (xs ys : List Int) : Int × List Int := if Good xs ∧ Good ys ∧ Joins xs ys (max xs.length ys.length) then (0, jn xs ys (max xs.length ys.length)) else (6, [])

/-- A slice of integers of the call's own. -/
def OwnI (w' : World) (lo : Nat) (sa : Option Addr) (L : List Int) : Prop := L = [] ∨ ∃ g, sa = some ⟨g, 0, none⟩ ∧ lo ≤ g ∧ Row w' g 0 L ∧ ∀ o, w'.frozen? ⟨g, o, none⟩ = false

def BSOk (w : World) (xs ys : List Int) (e : Ending) (w' : World) : Prop :=
  ∃ (sa : Option Addr) (cap : Nat), e = .returned (.agg #[.int .i64 (bsL xs ys).1, .slice sa (bsL xs ys).2.length cap]) ∧ OwnI w' w.heap.size sa (bsL xs ys).2 ∧ Below w.heap.size w w'

theorem good_cnt {xs : List Int} (h : Good xs) : ¬ cntL xs < 0 := by
  have := prod_bd xs xs.length h.1 (Nat.le_refl _) h.2.1
  rw [List.take_length] at this
  unfold cntL; rw [if_pos h]; omega
theorem bad_cnt {xs : List Int} (h : ¬ Good xs) : cntL xs < 0 := by
  unfold cntL; rw [if_neg h]; omega

theorem jn_good {xs ys : List Int} (hx : Good xs) (hy : Good ys) : Good (jn xs ys (max xs.length ys.length)) ↔ prod (jn xs ys (max xs.length ys.length)) ≤ 4096 := by
  have h1 := hx.1
  have h2 := hy.1
  exact ⟨fun g => g.2.2, fun g => ⟨by rw [jn_len]; omega, jn_in hx.2.1 hy.2.1 _, g⟩⟩

theorem bad_ok {w w' : World} {xs ys : List Int} (h : ¬ (Good xs ∧ Good ys ∧ Joins xs ys (max xs.length ys.length))) (hB : Below w.heap.size w w') : BSOk w xs ys (.returned (.agg #[.int .i64 6, .slice none 0 0])) w' := by
  have e : bsL xs ys = (6, []) := if_neg h
  refine ⟨none, 0, by rw [e]; rfl, ?_, hB⟩
  rw [e]; exact Or.inl rfl

/-- The world of the loop. -/
structure SB (w wr : World) (L : List Int) (k : Nat) (v : Value) : Prop where
  own : wr.ownsRow (w.heap.size + 1) 2 1 v k ((L.take k).map (Value.int .i64))
  bl : Below w.heap.size w wr
  r0 : wr.cell? ⟨w.heap.size, 0, none⟩ = some (.int .i64 0)
  r1 : wr.cell? ⟨w.heap.size, 1, none⟩ = some (.slice none 0 0)
  rf : ∀ o, wr.frozen? ⟨w.heap.size, o, none⟩ = false
  sz : w.heap.size + 1 ≤ wr.heap.size
  nn : ∃ g cap, v = .slice (some ⟨g, 0, none⟩) k cap

theorem SB.step {w wr w3 : World} {L : List Int} {k : Nat} {v v3 : Value} (h : SB w wr L k v) (hk : k < L.length) (x : Int) (hx : x = L.getD k 0)
    (hown : w3.ownsRow (w.heap.size + 1) 2 1 v3 (k + 1) ((L.take k).map (Value.int .i64) ++ [.int .i64 x])) (hgrow : World.grownBy (wr.alloc (.cells #[.int .i64 x] 2)) w3 v.ownBlock)
    (hnil : v3 = .slice none 0 0 ↔ v = .slice none 0 0 ∧ 1 = 0) : SB w w3 L (k + 1) v3 := by
  have hs := h.sz
  obtain ⟨g, cap, rfl⟩ := h.nn
  have hg : w.heap.size + 1 ≤ g := (h.own.lt g rfl).1
  have hcell : ∀ o, w3.cell? ⟨w.heap.size, o, none⟩ = wr.cell? ⟨w.heap.size, o, none⟩ := fun o => by
    rw [World.cell?_of_block (hgrow.block w.heap.size (by simp; omega) (by simp [Value.ownBlock]; omega))]
    exact (Below.refl wr.heap.size wr |>.alloc (Nat.le_refl _) _).cell (by show w.heap.size < wr.heap.size; omega)
  have hfz : ∀ o, w3.frozen? ⟨w.heap.size, o, none⟩ = wr.frozen? ⟨w.heap.size, o, none⟩ := fun o => by
    rw [World.frozen?_of_block (hgrow.block w.heap.size (by simp; omega) (by simp [Value.ownBlock]; omega))]
    exact (Below.refl wr.heap.size wr |>.alloc (Nat.le_refl _) _).frozen (by show w.heap.size < wr.heap.size; omega)
  refine ⟨?_, (h.bl.alloc h.bl.size (.cells #[.int .i64 x] 2)).grown hgrow (by simp; omega) (fun j hj => by simp [Value.ownBlock] at hj; omega), (hcell 0).trans h.r0, (hcell 1).trans h.r1, fun o => (hfz o).trans (h.rf o), ?_, ?_⟩
  · have e : (L.take (k + 1)).map (Value.int .i64) = (L.take k).map (Value.int .i64) ++ [.int .i64 x] := by
      rw [List.take_add_one, List.getElem?_eq_getElem hk, List.map_append, hx, List.getD_eq_getElem?_getD, List.getElem?_eq_getElem hk]
      rfl
    rw [e]; exact hown
  · have := hgrow.size
    simp at this; omega
  · rcases hown.2 with ⟨h1, _⟩ | ⟨g2, cap2, cur, h1, _⟩
    · have := (hnil.1 h1).2; omega
    · exact ⟨g2, cap2, h1⟩

theorem SB.start (w : World) (L : List Int) : SB w ((w.alloc (.cells #[.int .i64 0, .slice none 0 0] 32)).alloc (.cells #[] 2)) L 0 (.slice (some ⟨w.heap.size + 1, 0, none⟩) 0 0) := by
  have e1 : Ext w ((w.alloc (.cells #[.int .i64 0, .slice none 0 0] 32)).alloc (.cells #[] 2)) := ((Ext.refl w).alloc _ _).alloc _ _
  have e2 : Ext (w.alloc (.cells #[.int .i64 0, .slice none 0 0] 32)) ((w.alloc (.cells #[.int .i64 0, .slice none 0 0] 32)).alloc (.cells #[] 2)) := (Ext.refl _).alloc _ _
  have n1 := fun j => new_cell w #[.int .i64 0, .slice none 0 0] 32 w.heap.size rfl j
  refine ⟨?_, e1.bl, e2.box (n1 0), e2.box (n1 1), fun o => e1.unfrozen (Nat.le_refl _) o, by simp, ⟨_, _, rfl⟩⟩
  have := World.ownsRow_made (base := w.heap.size + 1) (e := 2) (size := 1) (w.alloc (.cells #[.int .i64 0, .slice none 0 0] 32)) #[] 0 (by simp) (by unfold maxLen; omega) rfl
  simpa using this

set_option maxRecDepth 100000 in
set_option maxHeartbeats 2000000 in
theorem sBS_good {w : World} {v u : Value} {xs ys : List Int} (h : Ints w v xs) (g : Ints w u ys) (hx : Good xs) (hy : Good ys) (d : Nat) (hd : d = max xs.length ys.length) :
    Calls Try.prog 18 #[v, u] w fun e w' => BSOk w xs ys e w' := by
  obtain ⟨i0, hi0, hz0, hz1, hz2⟩ := info_parts info2
  have H := hide (h.ext ((Ext.refl w).alloc #[.int .i64 0, .slice none 0 0] 32))
  have G := hide (g.ext ((Ext.refl w).alloc #[.int .i64 0, .slice none 0 0] 32))
  have H0 := hide h
  have G0 := hide g
  have cx := good_cnt hx
  have cy := good_cnt hy
  have hx4 := hx.1
  have hy4 := hy.1
  obtain ⟨sa, cap, rfl, _⟩ := h
  obtain ⟨ta, dap, rfl, _⟩ := g
  have S0 := hide (SB.start w (jn xs ys d))
  have hgd := hide (jn_good hx hy)
  rw [← hd] at hgd
  have hnot : Hid (¬ Joins xs ys d → ¬ (Good xs ∧ Good ys ∧ Joins xs ys (max xs.length ys.length))) := fun hn g => hn (by rw [hd]; exact g.2.2)
  have hyes : Hid (Joins xs ys d → bsL xs ys = (0, jn xs ys d)) := fun hj => by
    show bsL xs ys = (0, jn xs ys d)
    unfold bsL
    rw [← hd, if_pos ⟨hx, hy, hj⟩]
  clear hx hy
  have hd4 : d ≤ 4 := by omega
  have hdn : ((xs.length : Int) < (ys.length : Int) ∧ (ys.length : Int) = d) ∨ (¬ (xs.length : Int) < (ys.length : Int) ∧ (xs.length : Int) = d) := by omega
  have hjl := jn_len xs ys d
  clear hd
  rcases hdn with ⟨h1, h2⟩ | ⟨h1, h2⟩
  all_goals
    go_enter Try.func18, Try.ntmps18
    go_wp2_with fail
    refine (l2Count_any H.out (by omega)).mono ?_
    rintro e w' ⟨rfl, rfl⟩
    go_wp2_with fail
    refine (l2Count_any G.out (by omega)).mono ?_
    rintro e w' ⟨rfl, rfl⟩
    go_wp2
    try simp only [h2]
    try first | simp only [show decide (xs.length < d) = true from decide_eq_true (by omega)] | simp only [show decide (d < ys.length) = false from decide_eq_false (by omega)]
    go_loopw [6, 7] (fun o i wr => ∃ k : Nat, i = .int .i64 ((d : Int) - 1 - k) ∧ k ≤ d ∧ Hid (∀ j, d - k ≤ j → j < d → joinB (lenE xs j) (lenE ys j) = true) ∧ SB w wr (jn xs ys d) k o) (fun o i _ => (intOf i + 1).toNat)
    case atStart => exact ⟨0, by (first | (simp; done) | (simp; omega)), by omega, fun j h1 h2 => absurd h2 (by omega), S0.out⟩
    case round =>
      obtain ⟨k, rfl, hk, hfit, hS⟩ := hrel
      have HS := hide hS
      clear hS
      have r0 := HS.out.r0
      have r1 := HS.out.r1
      have rf := HS.out.rf
      have hsz := HS.out.sz
      by_cases hlt : k < d
      · have hge : (0 : Int) ≤ (d : Int) - 1 - k := by omega
        have hi : ((d : Int) - 1 - k) = ((d - 1 - k : Nat) : Int) := by omega
        have hxl := l2Length_any (H0.out.below HS.out.bl) (by omega) (d - 1 - k) (by omega)
        have hyl := l2Length_any (G0.out.below HS.out.bl) (by omega) (d - 1 - k) (by omega)
        have hJ : joinV (lenE xs (d - 1 - k)) (lenE ys (d - 1 - k)) = (jn xs ys d).getD k 0 := by
          rw [jn_getD, if_pos hlt]; rfl
        have hfn : joinB (lenE xs (d - 1 - k)) (lenE ys (d - 1 - k)) = false → ¬ Joins xs ys d := fun hj g => by
          have := g.1 (d - 1 - k) (by omega)
          rw [hj] at this; cases this
        have hfy : joinB (lenE xs (d - 1 - k)) (lenE ys (d - 1 - k)) = true → ∀ j, d - (k + 1) ≤ j → j < d → joinB (lenE xs j) (lenE ys j) = true := fun hj j h1 h2 => by
          by_cases e : j = d - 1 - k
          · rw [e]; exact hj
          · exact hfit.out j (by omega) h2
        generalize lenE xs (d - 1 - k) = X at hxl hJ hfn hfy
        generalize lenE ys (d - 1 - k) = Y at hyl hJ hfn hfy
        have Hxl := hide hxl
        have Hyl := hide hyl
        have HJ := hide hJ
        have Hfn := hide hfn
        have Hfy := hide hfy
        clear hxl hyl hJ hfn hfy
        rw [hi]
        go_wp2_with fail
        refine Hxl.out.mono ?_
        rintro e wr ⟨rfl, rfl⟩
        go_wp2_with fail
        refine Hyl.out.mono ?_
        rintro e wr ⟨rfl, rfl⟩
        clear Hxl Hyl
        cases hj : joinB X Y
        · have hn := hnot.out (Hfn.out hj)
          have Hn := hide hn
          clear hn
          have hne : ¬ (X = 1 ∨ Y = 1 ∨ X = Y) := of_decide_eq_false hj
          clear hj
          have n1 : ¬ X = 1 := fun e => hne (Or.inl e)
          have n2 : ¬ Y = 1 := fun e => hne (Or.inr (Or.inl e))
          have n3 : ¬ X = Y := fun e => hne (Or.inr (Or.inr e))
          clear hne
          have m1 : (X != 1) = true := by simp [n1]
          have m2 : (Y != 1) = true := by simp [n2]
          have m3 : (X != Y) = true := by simp [n3]
          go_wp2
          exact bodyPost_ret (v := .agg #[.int .i64 6, .slice none 0 0]) (by simp [results, Try.results18, go_sem, r0, r1]) rfl (bad_ok Hn.out ((HS.out.bl.setCell (Nat.le_refl _) _).setCell (Nat.le_refl _) _))
        · have hf2 := hide (Hfy.out hj)
          have hor : X = 1 ∨ Y = 1 ∨ X = Y := of_decide_eq_true hj
          clear hj
          have hcs : (X = 1 ∧ Y = 1) ∨ (X = 1 ∧ (1 != Y) = true) ∨ ((X == 1) = false ∧ X = Y) ∨ ((X == 1) = false ∧ (X != 1) = true ∧ Y = 1) := by
            simp only [bne_iff_ne, beq_eq_false_iff_ne, ne_eq]
            omega
          clear hor
          rcases hcs with ⟨rfl, rfl⟩ | ⟨rfl, n1⟩ | ⟨n1, rfl⟩ | ⟨n1, n2, rfl⟩
          ·
            go_wp2_with (at_builtin; (refine wpList_append_own _ rfl _ _ 22 rfl (w.heap.size + 1) 2 i0 (.int .i64 0) 1 8 Try.underlying22 hi0 hz0 hz1 hz2 rfl (by decide) _ _ _ rfl (HS.out.own.alloc _) ⟨wr.heap.size, 0, none⟩ 1 1 [.int .i64 1] rfl rfl (cell_one_new _ _ _) (fun x hx => by simp at hx; subst hx; rfl) (by unfold maxLen; omega) (by omega) (by simp; omega) ?_); intro v3 w3 hown3 hgrow3 hnil3)
            have St := HS.out.step (by rw [hjl]; exact hlt) 1 (by rw [← HJ.out]; unfold joinV; rw [if_pos rfl]) hown3 hgrow3 hnil3
            have HSt := hide St
            clear St hown3 hgrow3 hnil3
            go_wp2
            go_roundw
            · exact ⟨k + 1, by go_num, by omega, hf2, HSt.out⟩
            · first | (simp [intOf]; done) | (simp [intOf]; omega)
          ·
            go_wp2_with (at_builtin; (refine wpList_append_own _ rfl _ _ 22 rfl (w.heap.size + 1) 2 i0 (.int .i64 0) 1 8 Try.underlying22 hi0 hz0 hz1 hz2 rfl (by decide) _ _ _ rfl (HS.out.own.alloc _) ⟨wr.heap.size, 0, none⟩ 1 1 [.int .i64 Y] rfl rfl (cell_one_new _ _ _) (fun x hx => by simp at hx; subst hx; rfl) (by unfold maxLen; omega) (by omega) (by simp; omega) ?_); intro v3 w3 hown3 hgrow3 hnil3)
            have St := HS.out.step (by rw [hjl]; exact hlt) Y (by rw [← HJ.out]; unfold joinV; rw [if_pos rfl]) hown3 hgrow3 hnil3
            have HSt := hide St
            clear St hown3 hgrow3 hnil3
            go_wp2
            go_roundw
            · exact ⟨k + 1, by go_num, by omega, hf2, HSt.out⟩
            · first | (simp [intOf]; done) | (simp [intOf]; omega)
          ·
            go_wp2_with (at_builtin; (refine wpList_append_own _ rfl _ _ 22 rfl (w.heap.size + 1) 2 i0 (.int .i64 0) 1 8 Try.underlying22 hi0 hz0 hz1 hz2 rfl (by decide) _ _ _ rfl (HS.out.own.alloc _) ⟨wr.heap.size, 0, none⟩ 1 1 [.int .i64 X] rfl rfl (cell_one_new _ _ _) (fun x hx => by simp at hx; subst hx; rfl) (by unfold maxLen; omega) (by omega) (by simp; omega) ?_); intro v3 w3 hown3 hgrow3 hnil3)
            have St := HS.out.step (by rw [hjl]; exact hlt) X (by rw [← HJ.out]; unfold joinV; rw [if_neg (by simpa using n1)]) hown3 hgrow3 hnil3
            have HSt := hide St
            clear St hown3 hgrow3 hnil3
            go_wp2
            go_roundw
            · exact ⟨k + 1, by go_num, by omega, hf2, HSt.out⟩
            · first | (simp [intOf]; done) | (simp [intOf]; omega)
          ·
            go_wp2_with (at_builtin; (refine wpList_append_own _ rfl _ _ 22 rfl (w.heap.size + 1) 2 i0 (.int .i64 0) 1 8 Try.underlying22 hi0 hz0 hz1 hz2 rfl (by decide) _ _ _ rfl (HS.out.own.alloc _) ⟨wr.heap.size, 0, none⟩ 1 1 [.int .i64 X] rfl rfl (cell_one_new _ _ _) (fun x hx => by simp at hx; subst hx; rfl) (by unfold maxLen; omega) (by omega) (by simp; omega) ?_); intro v3 w3 hown3 hgrow3 hnil3)
            have St := HS.out.step (by rw [hjl]; exact hlt) X (by rw [← HJ.out]; unfold joinV; rw [if_neg (by simpa using n1)]) hown3 hgrow3 hnil3
            have HSt := hide St
            clear St hown3 hgrow3 hnil3
            go_wp2
            go_roundw
            · exact ⟨k + 1, by go_num, by omega, hf2, HSt.out⟩
            · first | (simp [intOf]; done) | (simp [intOf]; omega)
      · have hkk : k = d := by omega
        subst hkk
        obtain ⟨g, cp, hv⟩ := HS.out.nn
        subst hv
        have hown := HS.out.own
        rw [List.take_of_length_le (by omega)] at hown
        obtain ⟨hrow, hlen⟩ := row_of_own hown
        have hfrz := fun o => hown.frozenAt o
        have hgg := (hown.lt g rfl).1
        have hI := hide (hrow.ints (cap := cp) hlen)
        have Hrow := hide hrow
        clear hown hrow hlen
        have hm1 : ((k : Int) - 1 - k) = -1 := by omega
        rw [hm1]
        go_wp2_with fail
        refine (l2Count_any hI.out (by omega)).mono ?_
        rintro e wr ⟨rfl, rfl⟩
        by_cases hp : prod (jn xs ys k) ≤ 4096
        · have hc := good_cnt (hgd.out.2 hp)
          have hj := hyes.out ⟨fun i hi => hfit.out i (by omega) hi, hp⟩
          have HJ2 := hide hj
          clear hj hp
          go_wp2
          refine bodyPost_ret (v := .agg #[.int .i64 0, .slice (some ⟨g, 0, none⟩) k cp]) (by simp [results, Try.results18, go_sem, r0, r1]) rfl ⟨some ⟨g, 0, none⟩, cp, ?_, ?_, (HS.out.bl.setCell (Nat.le_refl _) _).setCell (Nat.le_refl _) _⟩
          · rw [HJ2.out, jn_len]
          · rw [HJ2.out]
            refine Or.inr ⟨g, rfl, by omega, ?_, ?_⟩
            · intro j hj
              repeat rw [World.cell?_setCell_other _ _ _ _ (by intro h; simp only [Addr.mk.injEq] at h; omega)]
              exact Hrow.out j hj
            · intro o
              simp only [World.frozen?_setCell]
              exact hfrz o
        · have hc := bad_cnt (fun q => hp (hgd.out.1 q))
          have Hn := hide (hnot.out (fun q => hp q.2))
          clear hp
          go_wp2
          exact bodyPost_ret (v := .agg #[.int .i64 6, .slice none 0 0]) (by simp [results, Try.results18, go_sem, r0, r1]) rfl (bad_ok Hn.out ((HS.out.bl.setCell (Nat.le_refl _) _).setCell (Nat.le_refl _) _))

set_option maxRecDepth 100000 in
set_option maxHeartbeats 4000000 in
theorem sBS_any {w : World} {v u : Value} {xs ys : List Int} (h : Ints w v xs) (g : Ints w u ys) (lx : xs.length ≤ 1048576) (ly : ys.length ≤ 1048576) :
    Calls Try.prog 18 #[v, u] w fun e w' => BSOk w xs ys e w' := by
  by_cases hx : Good xs
  · by_cases hy : Good ys
    · exact sBS_good h g hx hy _ rfl
    · have H := hide (h.ext ((Ext.refl w).alloc #[.int .i64 0, .slice none 0 0] 32))
      have G := hide (g.ext ((Ext.refl w).alloc #[.int .i64 0, .slice none 0 0] 32))
      have cx := good_cnt hx
      have cy := bad_cnt hy
      have Hn := hide (fun q : Good xs ∧ Good ys ∧ Joins xs ys (max xs.length ys.length) => hy q.2.1)
      obtain ⟨sa, cap, rfl, _⟩ := h
      obtain ⟨ta, dap, rfl, _⟩ := g
      clear hx hy
      go_enter Try.func18, Try.ntmps18
      go_wp2_with fail
      refine (l2Count_any H.out (by omega)).mono ?_
      rintro e w' ⟨rfl, rfl⟩
      go_wp2_with fail
      refine (l2Count_any G.out (by omega)).mono ?_
      rintro e w' ⟨rfl, rfl⟩
      go_wp2
      exact bodyPost_ret (v := .agg #[.int .i64 6, .slice none 0 0]) (by simp [results, Try.results18, go_sem]) rfl (bad_ok Hn.out ((Below.refl _ _).alloc (Nat.le_refl _) _))
  · have H := hide (h.ext ((Ext.refl w).alloc #[.int .i64 0, .slice none 0 0] 32))
    have cx := bad_cnt hx
    have Hn := hide (fun q : Good xs ∧ Good ys ∧ Joins xs ys (max xs.length ys.length) => hx q.1)
    obtain ⟨sa, cap, rfl, _⟩ := h
    obtain ⟨ta, dap, rfl, _⟩ := g
    clear hx
    go_enter Try.func18, Try.ntmps18
    go_wp2_with fail
    refine (l2Count_any H.out (by omega)).mono ?_
    rintro e w' ⟨rfl, rfl⟩
    go_wp2
    exact bodyPost_ret (v := .agg #[.int .i64 6, .slice none 0 0]) (by simp [results, Try.results18, go_sem]) rfl (bad_ok Hn.out ((Below.refl _ _).alloc (Nat.le_refl _) _))
end Go.Proofs.Ytiekkninnjffpaa
