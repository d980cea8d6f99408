import Derived.Test.YthaajmkfeniofaaDraw3
import Derived.OwnWalk
import Derived.Laws.Pointers
import Derived.Deep.RegionHeld3
import Derived.Deep.AppendLies
import Derived.Deep.RegionLaw
namespace Go.Proofs.Ythaajmkfeniofaa
open Go.RowKit FL
set_option linter.unusedSimpArgs false
set_option linter.unusedVariables false

theorem info5 : (Try.prog.info? 5).map (fun i => (i.zero, i.size, i.bytes)) = some (some (.int .u8 0), 1, 1) := by kernel_rfl

/-- The source while its bytes are gathered. -/
structure L1 (w wr : World) (k : Nat) (v : Value) (xs : List Value) (mix size : Int) : Prop where
  c0 : wr.cell? ⟨w.heap.size, 0, none⟩ = some v
  c1 : wr.cell? ⟨w.heap.size, 1, none⟩ = some (.int .i64 0)
  c2 : wr.cell? ⟨w.heap.size, 2, none⟩ = some (.int .i64 mix)
  c3 : wr.cell? ⟨w.heap.size, 3, none⟩ = some (.int .i64 size)
  fz : ∀ o, wr.frozen? ⟨w.heap.size, o, none⟩ = false
  own : wr.ownsRow (w.heap.size + 1) 5 1 v k xs
  byt : ∀ u ∈ xs, ∃ x : Int, u = .int .u8 x ∧ 0 ≤ x ∧ x < 256
  bl : Below w.heap.size w wr
  sz : w.heap.size + 1 ≤ wr.heap.size

theorem own_ne {w : World} {base e size : Nat} {v : Value} {n : Nat} {xs : List Value} (h : w.ownsRow base e size v n xs) {k : Nat} (hk : k < base) : some k ≠ v.ownBlock := by
  rcases h.2 with ⟨rfl, _⟩ | ⟨g, cap, cur, rfl, hg, _⟩
  · simp [Value.ownBlock]
  · simp [Value.ownBlock]; omega
theorem own_ge {w : World} {base e size : Nat} {v : Value} {n : Nat} {xs : List Value} (h : w.ownsRow base e size v n xs) : ∀ k, v.ownBlock = some k → base ≤ k := by
  intro k hk
  rcases h.2 with ⟨rfl, _⟩ | ⟨g, cap, cur, rfl, hg, _⟩
  · simp [Value.ownBlock] at hk
  · simp [Value.ownBlock] at hk; omega

theorem L1.step {w wr w1 : World} {k : Nat} {v : Value} {xs : List Value} {mix size : Int} (h : L1 w wr k v xs mix size) (x : Int) (hx : 0 ≤ x ∧ x < 256) (g cap : Nat)
    (hown : w1.ownsRow (w.heap.size + 1) 5 1 (.slice (some ⟨g, 0, none⟩) (k + 1) cap) (k + 1) (xs ++ [.int .u8 x])) (hgrow : World.grownBy (wr.alloc (.cells #[.int .u8 x] 5)).drew w1 v.ownBlock) :
    L1 w (w1.setCell ⟨w.heap.size, 0, none⟩ (.slice (some ⟨g, 0, none⟩) (k + 1) cap)) (k + 1) (.slice (some ⟨g, 0, none⟩) (k + 1) cap) (xs ++ [.int .u8 x]) mix size := by
  have hs := h.sz
  have hne := own_ne h.own (k := w.heap.size) (by omega)
  have hcell : ∀ o, w1.cell? ⟨w.heap.size, o, none⟩ = wr.cell? ⟨w.heap.size, o, none⟩ := fun o => by
    rw [hgrow.cell_far ⟨w.heap.size, o, none⟩ (by simp; omega) hne]
    show (wr.alloc (.cells #[.int .u8 x] 5)).cell? _ = _
    exact (Below.refl wr.heap.size wr |>.alloc (Nat.le_refl _) _).cell (by show w.heap.size < wr.heap.size; omega)
  have hfz : ∀ o, w1.frozen? ⟨w.heap.size, o, none⟩ = wr.frozen? ⟨w.heap.size, o, none⟩ := fun o => by
    rw [hgrow.frozen_far ⟨w.heap.size, o, none⟩ (by simp; omega) hne]
    show (wr.alloc (.cells #[.int .u8 x] 5)).frozen? _ = _
    exact (Below.refl wr.heap.size wr |>.alloc (Nat.le_refl _) _).frozen (by show w.heap.size < wr.heap.size; omega)
  have hbl : Below w.heap.size w w1 := (((h.bl.alloc h.bl.size (.cells #[.int .u8 x] 5)).drew).grown hgrow (by simp; omega) (fun k hk => by have := own_ge h.own k hk; omega))
  have hsz : w.heap.size + 1 ≤ w1.heap.size := by
    have := hgrow.size
    simp at this; omega
  refine ⟨?_, ?_, ?_, ?_, fun o => ?_, ?_, ?_, hbl.setCell (Nat.le_refl _) _, by simpa [World.setCell] using hsz⟩
  · have := (hcell 0).trans h.c0; simp [go_sem, this]
  · have := (hcell 1).trans h.c1; simp [go_sem, this]
  · have := (hcell 2).trans h.c2; simp [go_sem, this]
  · have := (hcell 3).trans h.c3; simp [go_sem, this]
  · rw [World.frozen?_setCell, hfz, h.fz]
  · exact ownsRow_setCell_below hown (by show w.heap.size < _; omega) _
  · intro u hu
    rcases List.mem_append.1 hu with hu | hu
    · exact h.byt u hu
    · simp at hu; exact ⟨x, hu, hx⟩

theorem L1.far {w wr w1 : World} {k : Nat} {v : Value} {xs : List Value} {mix size : Int} (h : L1 w wr k v xs mix size) (x : Int) (hgrow : World.grownBy (wr.alloc (.cells #[.int .u8 x] 5)).drew w1 v.ownBlock) :
    w1.cell? ⟨w.heap.size, 0, none⟩ = some v ∧ (∀ o, w1.frozen? ⟨w.heap.size, o, none⟩ = false) := by
  have hs := h.sz
  have hne := own_ne h.own (k := w.heap.size) (by omega)
  refine ⟨?_, fun o => ?_⟩
  · rw [hgrow.cell_far ⟨w.heap.size, 0, none⟩ (by simp; omega) hne]
    show (wr.alloc (.cells #[.int .u8 x] 5)).cell? _ = _
    exact ((Below.refl wr.heap.size wr |>.alloc (Nat.le_refl _) _).cell (by show w.heap.size < wr.heap.size; omega)).trans h.c0
  · rw [hgrow.frozen_far ⟨w.heap.size, o, none⟩ (by simp; omega) hne]
    show (wr.alloc (.cells #[.int .u8 x] 5)).frozen? _ = _
    exact ((Below.refl wr.heap.size wr |>.alloc (Nat.le_refl _) _).frozen (by show w.heap.size < wr.heap.size; omega)).trans (h.fz o)

theorem L1.start (w : World) : L1 w (w.alloc (.cells #[.slice none 0 0, .int .i64 0, .int .i64 0, .int .i64 0] 85)) 0 (.slice none 0 0) [] 0 0 :=
  ⟨by simp, by simp, by simp, by simp, fun o => ((Ext.refl w).alloc _ _).unfrozen (Nat.le_refl _) o, World.ownsRow_nil _ _ _ _, by simp, (Below.refl _ _).alloc (Nat.le_refl _) _, by simp⟩

theorem L1.setMix {w wr : World} {k : Nat} {v : Value} {xs : List Value} {mix size : Int} (h : L1 w wr k v xs mix size) (m2 : Int) : L1 w (wr.setCell ⟨w.heap.size, 2, none⟩ (.int .i64 m2)) k v xs m2 size := by
  refine ⟨?_, ?_, ?_, ?_, fun o => (World.frozen?_setCell _ _ _ _).trans (h.fz o), ownsRow_setCell_below h.own (by show w.heap.size < _; omega) _, h.byt, h.bl.setCell (Nat.le_refl _) _, by simpa [World.setCell] using h.sz⟩
  · simp [go_sem, h.c0]
  · simp [go_sem, h.c1]
  · simp [go_sem, h.c2]
  · simp [go_sem, h.c3]
theorem L1.setSize {w wr : World} {k : Nat} {v : Value} {xs : List Value} {mix size : Int} (h : L1 w wr k v xs mix size) (m2 : Int) : L1 w (wr.setCell ⟨w.heap.size, 3, none⟩ (.int .i64 m2)) k v xs mix m2 := by
  refine ⟨?_, ?_, ?_, ?_, fun o => (World.frozen?_setCell _ _ _ _).trans (h.fz o), ownsRow_setCell_below h.own (by show w.heap.size < _; omega) _, h.byt, h.bl.setCell (Nat.le_refl _) _, by simpa [World.setCell] using h.sz⟩
  · simp [go_sem, h.c0]
  · simp [go_sem, h.c1]
  · simp [go_sem, h.c2]
  · simp [go_sem, h.c3]
theorem ownsRow_drewN {w : World} {base e size : Nat} {v : Value} {n : Nat} {xs : List Value} (h : w.ownsRow base e size v n xs) (k : Nat) : (w.drewN k).ownsRow base e size v n xs := h
theorem L1.drewN {w wr : World} {k : Nat} {v : Value} {xs : List Value} {mix size : Int} (h : L1 w wr k v xs mix size) (n : Nat) : L1 w (wr.drewN n) k v xs mix size :=
  ⟨h.c0, h.c1, h.c2, h.c3, h.fz, h.own, h.byt, below_drewN h.bl n, h.sz⟩
theorem L1.drew {w wr : World} {k : Nat} {v : Value} {xs : List Value} {mix size : Int} (h : L1 w wr k v xs mix size) : L1 w wr.drew k v xs mix size := h.drewN 1

theorem L1.byte {w wr : World} {k : Nat} {v : Value} {xs : List Value} {mix size : Int} (h : L1 w wr k v xs mix size) {j : Nat} (hj : j < k) :
    ∃ (g cap : Nat) (x : Int), v = .slice (some ⟨g, 0, none⟩) k cap ∧ wr.cell? ⟨g, j, none⟩ = some (.int .u8 x) ∧ (0 ≤ x ∧ x < 256) ∧ w.heap.size + 1 ≤ g := by
  rcases h.own with ⟨hl, ⟨_, h0⟩ | ⟨g, cap, cur, rfl, hg, hh, hn, hc, hcs, ht⟩⟩
  · omega
  · have hlen : j < xs.length := by omega
    have hm : xs[j] ∈ xs := List.getElem_mem hlen
    obtain ⟨x, hx, hx0, hx1⟩ := h.byt _ hm
    refine ⟨g, cap, x, rfl, ?_, ⟨hx0, hx1⟩, hg⟩
    rw [cell_of_row wr g j cur 5 (0, 0) hh]
    have h1 : (cur.toList.take (k * 1))[j]? = cur.toList[j]? := by
      rw [List.getElem?_take]; simp; omega
    rw [ht] at h1
    have h2 : cur[j]? = cur.toList[j]? := by simp
    rw [h2, ← h1, List.getElem?_eq_getElem hlen, hx]

theorem L1.src {w wr : World} {k : Nat} {v : Value} {xs : List Value} {mix size : Int} (h : L1 w wr k v xs mix size) (hk : k ≤ 4000) (hm : 0 ≤ mix ∧ mix < 1000003) (hs : 1 ≤ size ∧ size ≤ 7) : Src wr w.heap.size v k 0 mix size := by
  refine ⟨h.c0, h.c1, h.c2, h.c3, h.fz, by omega, by omega, hk, hm.1, hm.2, hs.1, hs.2, ?_⟩
  rcases h.own.2 with ⟨h1, h2⟩ | ⟨g, cap, cur, h1, hg, _⟩
  · exact Or.inl ⟨h2, h1⟩
  · refine Or.inr ⟨g, cap, h1, by omega, fun j hj => ?_⟩
    obtain ⟨g', cap', x, e, hc, hx, _⟩ := h.byte hj
    rw [h1] at e
    cases e
    exact ⟨x, hc, hx⟩

def SourceOk (w : World) (e : Ending) (w' : World) : Prop := ∃ (b : Nat) (sv : Value) (n : Nat) (mix size : Int), e = .returned (.pointer (some ⟨b, 0, none⟩)) ∧ Src w' b sv n 0 mix size ∧ w.heap.size ≤ b ∧ Below w.heap.size w w'

set_option maxRecDepth 100000 in
set_option maxHeartbeats 3200000 in
theorem source_any (cb off len cap : Nat) (w : World) (hlen : len ≤ maxLen) (hcb : cb < w.heap.size)
    (hc : ∀ j, j < len → ∃ x : Int, w.cell? ⟨cb, off + j, none⟩ = some (.int .u8 x) ∧ 0 ≤ x ∧ x < 256) :
    Calls Try.prog 58 #[.slice (some ⟨cb, off, none⟩) len cap] w fun e w' => SourceOk w e w' := by
  obtain ⟨i0, hi0, hz0, hz1, hz2⟩ := info_parts info5
  unfold maxLen at hlen
  have Hc := hide hc
  clear hc
  have S0 := hide (L1.start w)
  go_enter Try.func58, Try.ntmps58
  go_wp2
  go_loopw [4] (fun i wr => ∃ (k : Nat) (v : Value) (xs : List Value), i = .int .i64 k ∧ (k ≤ len ∧ k ≤ 4000) ∧ L1 w wr k v xs 0 0) (fun i _ => 4000 - (intOf i).toNat)
  case atStart => exact ⟨0, _, _, rfl, ⟨by omega, by omega⟩, S0.out⟩
  case round =>
    obtain ⟨k, v, xs, rfl, ⟨hk1, hk2⟩, hL⟩ := hrel
    have HL := hide hL
    clear hL
    by_cases hboth : k < len ∧ k < 4000
    · obtain ⟨hlt, h4⟩ := hboth
      obtain ⟨x, hx, hx0, hx1⟩ := Hc.out k hlt
      have hxr := (HL.out.bl.cell (p := ⟨cb, off + k, none⟩) hcb).trans hx
      clear hx
      have c0 := HL.out.c0
      have cf := HL.out.fz
      have hszr : w.heap.size < wr.heap.size := HL.out.sz
      have hi0' : (0 : Int) ≤ (k : Int) := Int.natCast_nonneg _
      have hi1 : (k : Int) < (len : Int) := by omega
      have d1 : decide ((k : Int) < (len : Int)) = true := decide_eq_true hi1
      have d2 : decide ((k : Int) < 4000) = true := decide_eq_true (by omega)
      go_wp2_with fail
      go_region_law (refine step_append_lies _ (by rfl) (.tmp 18) (.tmp 23) 41 (by rfl) (w.heap.size + 1) 5 i0 (.int .u8 0) 1 1 Try.underlying41 hi0 hz0 hz1 hz2 rfl (by omega) v k xs (by rfl) ((HL.out.own.alloc _).drew) ⟨wr.heap.size, 0, none⟩ 1 1 [.int .u8 x] (by rfl) (by rfl) (World.news_of_block (cs := #[.int .u8 x]) (t := 5) (fr := (0, 0)) (heap_alloc_new wr _)) (by simp [Value.oneCell']) (by omega) (by unfold maxLen; omega) (by omega) (by have := HL.out.sz; simp; omega) (wr.heap.size + 1) (by simp) ?_; intro g cap2 w1 hown1 hgrow hat hlt2; have e0 := (HL.out.far x hgrow).1; have ef := (HL.out.far x hgrow).2)
      all_goals (have St := hide (HL.out.step x ⟨hx0, hx1⟩ g cap2 hown1 hgrow); clear hown1 hgrow hat hlt2)
      all_goals go_wp2
      all_goals go_roundw
      all_goals first | exact ⟨k + 1, _, _, by go_num, ⟨by omega, by omega⟩, St.out⟩ | (simp [intOf]; omega)
    · have c0 := HL.out.c0
      have c2 := HL.out.c2
      have cf := HL.out.fz
      have hszr : w.heap.size < wr.heap.size := HL.out.sz
      have M0 := hide (HL.out.setMix ((len : Int) % 1000 + 41))
      have hsl : ∃ a cp, v = .slice a k cp := by
        rcases HL.out.own.2 with ⟨h1, h2⟩ | ⟨g, cp, cur, h1, _⟩
        · exact ⟨none, 0, by rw [h1, h2]⟩
        · exact ⟨_, _, h1⟩
      obtain ⟨sa, sc, rfl⟩ := hsl
      have hdd : ((k : Int) < (len : Int) ∧ ¬ (k : Int) < 4000) ∨ ¬ (k : Int) < (len : Int) := by omega
      have hdd2 : ((k : Int) < (len : Int) ∧ ¬ (k : Int) < 4000 ∧ decide ((k : Int) < (len : Int)) = true ∧ decide ((k : Int) < 4000) = false) ∨ (¬ (k : Int) < (len : Int) ∧ decide ((k : Int) < (len : Int)) = false) := by
        rcases hdd with ⟨h1, h2⟩ | h1
        · exact Or.inl ⟨h1, h2, decide_eq_true h1, decide_eq_false h2⟩
        · exact Or.inr ⟨h1, decide_eq_false h1⟩
      clear hboth hdd
      rcases hdd2 with ⟨hq1, hq2, d1, d2⟩ | ⟨hq1, d1⟩
      all_goals
        go_wp2
        go_loopw [5] (fun i wr2 => ∃ (j : Nat) (mix : Int), i = .int .i64 j ∧ j ≤ k ∧ (0 ≤ mix ∧ mix < 1000003) ∧ L1 w wr2 k (.slice sa k sc) xs mix 0) (fun i _ => k - (intOf i).toNat)
        case atStart => exact ⟨0, _, rfl, by omega, ⟨by omega, by omega⟩, M0.out⟩
        case round =>
          obtain ⟨j, mix, rfl, hj, hm, hL2⟩ := hrel
          have H2 := hide hL2
          clear hL2
          have e0 := H2.out.c0
          have e2 := H2.out.c2
          have e3 := H2.out.c3
          have ef := H2.out.fz
          by_cases hjk : j < k
          · obtain ⟨g, cp, x, hv, hx, hx01, hg⟩ := H2.out.byte hjk
            have hsa : sa = some ⟨g, 0, none⟩ := by cases hv; rfl
            subst hsa
            have hj0 : (0 : Int) ≤ (j : Int) := Int.natCast_nonneg _
            have hj1 : (j : Int) < (k : Int) := by omega
            clear hv
            go_wp2_with fail
            go_region
            all_goals go_wp2
            all_goals go_roundw
            all_goals first | exact ⟨j + 1, (mix * 257 + x + 1) % 1000003, by go_num, by omega, ⟨by omega, by omega⟩, (H2.out.setMix _).drew⟩ | (simp [intOf]; omega)
          · have hb : 1 ≤ 1 + (k : Int) / 50 := by omega
            by_cases h7 : 7 < 1 + (k : Int) / 50
            · go_wp2
              go_ret
              have Z := (H2.out.setSize (1 + (k : Int) / 50)).setSize 7
              exact ⟨w.heap.size, .slice sa k sc, k, mix, 7, rfl, Z.src hk2 hm ⟨by omega, by omega⟩, Nat.le_refl _, Z.bl⟩
            · first
                | (exfalso; omega)
                | (go_wp2
                   go_ret
                   have Z := H2.out.setSize (1 + (k : Int) / 50)
                   exact ⟨w.heap.size, .slice sa k sc, k, mix, 1 + (k : Int) / 50, rfl, Z.src hk2 hm ⟨by omega, by omega⟩, Nat.le_refl _, Z.bl⟩)
end Go.Proofs.Ythaajmkfeniofaa
