import Derived.Test.YtjjemnlknnnkbaaDSrc
import Derived.Test.YtjjemnlknnnkbaaPoolA
import Derived.OwnWalk
import Derived.Laws.Pointers
import Derived.Deep.RegionHeld3
import Derived.Deep.AppendLies
import Derived.Deep.RegionLaw
namespace Go.Proofs.Ytjjemnlknnnkbaa
open Go.ChangeShapes Go.RowKit Go.MuLone
set_option linter.unusedSimpArgs false
set_option linter.unusedVariables false

theorem info5 : (Try.prog.info? 5).map (fun i => (i.zero, i.size, i.bytes)) = some (some (.int .u8 0), 1, 1) := by kernel_rfl
/-- v is a slice of these bytes. -/
def Code (w : World) (v : Value) (cs : List Int) : Prop := ∃ sa cap, v = .slice sa cs.length cap ∧ cs.length ≤ maxLen ∧ (cs = [] ∨ ∃ b off, sa = some ⟨b, off, none⟩ ∧ b < w.heap.size ∧ ∀ j, j < cs.length → w.cell? ⟨b, off + j, none⟩ = some (.int .u8 (cs.getD j 0)) ∧ 0 ≤ cs.getD j 0 ∧ cs.getD j 0 < 256)
theorem Code.keep {w w' : World} {v : Value} {cs : List Int} (h : Code w v cs) (x : Bel w w') : Code w' v cs := by
  obtain ⟨sa, cap, h1, h2, h3⟩ := h
  refine ⟨sa, cap, h1, h2, ?_⟩
  rcases h3 with h3 | ⟨b, off, h3, h4, h5⟩
  · exact Or.inl h3
  · exact Or.inr ⟨b, off, h3, Nat.lt_of_lt_of_le h4 (Below.size x), fun j hj => ⟨Bel.box x (h5 j hj).1, (h5 j hj).2⟩⟩
def u8s (cs : List Int) : List Value := cs.map (fun x => .int .u8 x)
def mixL (n : Nat) (cs : List Int) : Int := cs.foldl (fun m x => (m * 257 + x + 1) % 1000003) ((n : Int) % 1000 + 41)
theorem mixL_bd (n : Nat) : ∀ (cs : List Int), 0 ≤ mixL n cs ∧ mixL n cs < 1000003 := by
  intro cs
  unfold mixL
  have : ∀ (cs : List Int) (m : Int), 0 ≤ m → m < 1000003 → 0 ≤ cs.foldl (fun m x => (m * 257 + x + 1) % 1000003) m ∧ cs.foldl (fun m x => (m * 257 + x + 1) % 1000003) m < 1000003 := by
    intro cs
    induction cs with
    | nil => intro m h1 h2; exact ⟨h1, h2⟩
    | cons c cs ih => intro m h1 h2; exact ih _ (by show 0 ≤ (m * 257 + c + 1) % 1000003; omega) (by show (m * 257 + c + 1) % 1000003 < 1000003; omega)
  exact this cs _ (by omega) (by omega)
def sizeL (cs : List Int) : Int := if 7 < 1 + (cs.length : Int) / 50 then 7 else 1 + (cs.length : Int) / 50

/-- The source while its bytes are gathered. -/
structure L1 (w wr : World) (v : Value) (xs : List Int) (mix size : Int) : Prop where
  c0 : wr.cell? ⟨w.heap.size, 0, none⟩ = some v
  c1 : wr.cell? ⟨w.heap.size, 1, none⟩ = some (.int .i64 0)
  c2 : wr.cell? ⟨w.heap.size, 2, none⟩ = some (.int .i64 mix)
  c3 : wr.cell? ⟨w.heap.size, 3, none⟩ = some (.int .i64 size)
  fz : ∀ o, wr.frozen? ⟨w.heap.size, o, none⟩ = false
  own : wr.ownsRow (w.heap.size + 1) 5 1 v xs.length (u8s xs)
  byt : ∀ j, j < xs.length → 0 ≤ xs.getD j 0 ∧ xs.getD j 0 < 256
  bl : Below w.heap.size w wr
  sz : w.heap.size + 1 ≤ wr.heap.size

theorem own_neB {w : World} {base e size : Nat} {v : Value} {n : Nat} {xs : List Value} (h : w.ownsRow base e size v n xs) {k : Nat} (hk : k < base) : some k ≠ v.ownBlock := by
  rcases h.2 with ⟨rfl, _⟩ | ⟨g, cap, cur, rfl, hg, _⟩
  · simp [Value.ownBlock]
  · simp [Value.ownBlock]; omega
theorem own_ge {w : World} {base e size : Nat} {v : Value} {n : Nat} {xs : List Value} (h : w.ownsRow base e size v n xs) : ∀ k, v.ownBlock = some k → base ≤ k := by
  intro k hk
  rcases h.2 with ⟨rfl, _⟩ | ⟨g, cap, cur, rfl, hg, _⟩
  · simp [Value.ownBlock] at hk
  · simp [Value.ownBlock] at hk; omega
theorem u8s_snoc (xs : List Int) (x : Int) : u8s (xs ++ [x]) = u8s xs ++ [.int .u8 x] := by simp [u8s]
theorem L1.step {w wr w1 : World} {v : Value} {xs : List Int} {mix size : Int} (h : L1 w wr v xs mix size) (x : Int) (hx : 0 ≤ x ∧ x < 256) (g cap : Nat)
    (hown : w1.ownsRow (w.heap.size + 1) 5 1 (.slice (some ⟨g, 0, none⟩) (xs.length + 1) cap) (xs.length + 1) (u8s xs ++ [.int .u8 x])) (hgrow : World.grownBy (wr.alloc (.cells #[.int .u8 x] 5)).drew w1 v.ownBlock) :
    L1 w (w1.setCell ⟨w.heap.size, 0, none⟩ (.slice (some ⟨g, 0, none⟩) (xs.length + 1) cap)) (.slice (some ⟨g, 0, none⟩) (xs.length + 1) cap) (xs ++ [x]) mix size := by
  have hs := h.sz
  have hne := own_neB h.own (k := w.heap.size) (by omega)
  have hcell : ∀ o, w1.cell? ⟨w.heap.size, o, none⟩ = wr.cell? ⟨w.heap.size, o, none⟩ := fun o => by
    rw [hgrow.cell_far ⟨w.heap.size, o, none⟩ (by simp; omega) hne]
    show (wr.alloc (.cells #[.int .u8 x] 5)).cell? _ = _
    exact (Below.refl wr.heap.size wr |>.alloc (Nat.le_refl _) _).cell (by show w.heap.size < wr.heap.size; omega)
  have hfz : ∀ o, w1.frozen? ⟨w.heap.size, o, none⟩ = wr.frozen? ⟨w.heap.size, o, none⟩ := fun o => by
    rw [hgrow.frozen_far ⟨w.heap.size, o, none⟩ (by simp; omega) hne]
    show (wr.alloc (.cells #[.int .u8 x] 5)).frozen? _ = _
    exact (Below.refl wr.heap.size wr |>.alloc (Nat.le_refl _) _).frozen (by show w.heap.size < wr.heap.size; omega)
  have hbl : Below w.heap.size w w1 := (((h.bl.alloc h.bl.size (.cells #[.int .u8 x] 5)).drew).grown hgrow (by simp; omega) (fun k hk => by have := own_ge h.own k hk; omega))
  have hsz : w.heap.size + 1 ≤ w1.heap.size := by
    have := hgrow.size
    simp at this; omega
  refine ⟨?_, ?_, ?_, ?_, fun o => ?_, ?_, ?_, hbl.setCell (Nat.le_refl _) _, by simpa [World.setCell] using hsz⟩
  · have := (hcell 0).trans h.c0; simp [go_sem, this]
  · have := (hcell 1).trans h.c1; simp [go_sem, this]
  · have := (hcell 2).trans h.c2; simp [go_sem, this]
  · have := (hcell 3).trans h.c3; simp [go_sem, this]
  · rw [World.frozen?_setCell, hfz, h.fz]
  · rw [List.length_append, u8s_snoc]
    exact ownsRow_setCell_below hown (by show w.heap.size < _; omega) _
  · intro j hj
    rw [List.length_append, List.length_singleton] at hj
    by_cases e : j < xs.length
    · rw [List.getD_eq_getElem?_getD, List.getElem?_append_left e, ← List.getD_eq_getElem?_getD]
      exact h.byt j e
    · obtain rfl : j = xs.length := by omega
      simp [List.getD_eq_getElem?_getD]
      exact hx
theorem L1.far {w wr w1 : World} {v : Value} {xs : List Int} {mix size : Int} (h : L1 w wr v xs mix size) (x : Int) (hgrow : World.grownBy (wr.alloc (.cells #[.int .u8 x] 5)).drew w1 v.ownBlock) :
    w1.cell? ⟨w.heap.size, 0, none⟩ = some v ∧ (∀ o, w1.frozen? ⟨w.heap.size, o, none⟩ = false) := by
  have hs := h.sz
  have hne := own_neB h.own (k := w.heap.size) (by omega)
  refine ⟨?_, fun o => ?_⟩
  · rw [hgrow.cell_far ⟨w.heap.size, 0, none⟩ (by simp; omega) hne]
    show (wr.alloc (.cells #[.int .u8 x] 5)).cell? _ = _
    exact ((Below.refl wr.heap.size wr |>.alloc (Nat.le_refl _) _).cell (by show w.heap.size < wr.heap.size; omega)).trans h.c0
  · rw [hgrow.frozen_far ⟨w.heap.size, o, none⟩ (by simp; omega) hne]
    show (wr.alloc (.cells #[.int .u8 x] 5)).frozen? _ = _
    exact ((Below.refl wr.heap.size wr |>.alloc (Nat.le_refl _) _).frozen (by show w.heap.size < wr.heap.size; omega)).trans (h.fz o)

theorem L1.start (w : World) : L1 w (w.alloc (.cells #[.slice none 0 0, .int .i64 0, .int .i64 0, .int .i64 0] 56)) (.slice none 0 0) [] 0 0 :=
  ⟨by simp, by simp, by simp, by simp, fun o => ((Ext.refl w).alloc _ _).unfrozen (Nat.le_refl _) o, World.ownsRow_nil _ _ _ _, by simp, (Below.refl _ _).alloc (Nat.le_refl _) _, by simp⟩
theorem L1.setMix {w wr : World} {v : Value} {xs : List Int} {mix size : Int} (h : L1 w wr v xs mix size) (m2 : Int) : L1 w (wr.setCell ⟨w.heap.size, 2, none⟩ (.int .i64 m2)) v xs m2 size := by
  refine ⟨?_, ?_, ?_, ?_, fun o => (World.frozen?_setCell _ _ _ _).trans (h.fz o), ownsRow_setCell_below h.own (by show w.heap.size < _; omega) _, h.byt, h.bl.setCell (Nat.le_refl _) _, by simpa [World.setCell] using h.sz⟩
  · simp [go_sem, h.c0]
  · simp [go_sem, h.c1]
  · simp [go_sem, h.c2]
  · simp [go_sem, h.c3]
theorem L1.setSize {w wr : World} {v : Value} {xs : List Int} {mix size : Int} (h : L1 w wr v xs mix size) (m2 : Int) : L1 w (wr.setCell ⟨w.heap.size, 3, none⟩ (.int .i64 m2)) v xs mix m2 := by
  refine ⟨?_, ?_, ?_, ?_, fun o => (World.frozen?_setCell _ _ _ _).trans (h.fz o), ownsRow_setCell_below h.own (by show w.heap.size < _; omega) _, h.byt, h.bl.setCell (Nat.le_refl _) _, by simpa [World.setCell] using h.sz⟩
  · simp [go_sem, h.c0]
  · simp [go_sem, h.c1]
  · simp [go_sem, h.c2]
  · simp [go_sem, h.c3]
theorem L1.drewN {w wr : World} {v : Value} {xs : List Int} {mix size : Int} (h : L1 w wr v xs mix size) (n : Nat) : L1 w (wr.drewN n) v xs mix size :=
  ⟨h.c0, h.c1, h.c2, h.c3, h.fz, h.own, h.byt, below_drewN h.bl n, h.sz⟩
theorem L1.drew {w wr : World} {v : Value} {xs : List Int} {mix size : Int} (h : L1 w wr v xs mix size) : L1 w wr.drew v xs mix size := h.drewN 1
theorem u8s_at (xs : List Int) (j : Nat) (hj : j < xs.length) : (u8s xs)[j]? = some (.int .u8 (xs.getD j 0)) := by
  simp [u8s, List.getD_eq_getElem?_getD, hj]
theorem L1.byte {w wr : World} {v : Value} {xs : List Int} {mix size : Int} (h : L1 w wr v xs mix size) {j : Nat} (hj : j < xs.length) :
    ∃ (g cap : Nat), v = .slice (some ⟨g, 0, none⟩) xs.length cap ∧ wr.cell? ⟨g, j, none⟩ = some (.int .u8 (xs.getD j 0)) ∧ w.heap.size + 1 ≤ g := by
  obtain ⟨g, cap, rfl, hg⟩ := own_form3 h.own (by omega)
  refine ⟨g, cap, rfl, ?_, hg⟩
  have := h.own.cellAt j (by omega)
  rw [this, u8s_at xs j hj]
theorem L1.src {w wr : World} {v : Value} {xs : List Int} {mix size : Int} (h : L1 w wr v xs mix size) (hk : xs.length ≤ 4000) (hm : 0 ≤ mix ∧ mix < 1000003) (hs : 1 ≤ size ∧ size ≤ 7) : Src wr w.heap.size v xs (0, mix) size := by
  refine ⟨h.c0, h.c1, h.c2, h.c3, h.fz, Nat.zero_le _, hk, hm.1, hm.2, hs.1, hs.2, h.byt, ?_⟩
  rcases h.own.2 with ⟨h1, h2⟩ | ⟨g, cap, cur, h1, hg, _⟩
  · exact Or.inl ⟨List.eq_nil_of_length_eq_zero h2, h1⟩
  · refine Or.inr ⟨g, cap, h1, by omega, fun j hj => ?_⟩
    obtain ⟨g', cap', e, hc, _⟩ := h.byte hj
    rw [h1] at e
    cases e
    exact hc
def SourceOk (w : World) (cs : List Int) (e : Ending) (w' : World) : Prop := ∃ (b : Nat) (sv : Value), e = .returned (.pointer (some ⟨b, 0, none⟩)) ∧ Src w' b sv (cs.take 4000) (0, mixL cs.length (cs.take 4000)) (sizeL (cs.take 4000)) ∧ w.heap.size ≤ b ∧ Below w.heap.size w w'
theorem take_snocI (xs : List Int) (k : Nat) (hk : k < xs.length) : xs.take (k + 1) = xs.take k ++ [xs.getD k 0] := by
  rw [List.take_add_one, List.getElem?_eq_getElem hk, List.getD_eq_getElem?_getD, List.getElem?_eq_getElem hk]; rfl
theorem mixL_snoc (n : Nat) (xs : List Int) (k : Nat) (hk : k < xs.length) : mixL n (xs.take (k + 1)) = (mixL n (xs.take k) * 257 + xs.getD k 0 + 1) % 1000003 := by
  rw [take_snocI xs k hk]; unfold mixL; rw [List.foldl_append]; rfl

set_option maxRecDepth 100000 in
set_option maxHeartbeats 3200000 in
theorem source_any {w : World} {v : Value} {cs : List Int} (h : Code w v cs) :
    Calls Try.prog 27 #[v] w fun e w' => SourceOk w cs e w' := by
  obtain ⟨i0, hi0, hz0, hz1, hz2⟩ := info_parts info5
  obtain ⟨sa, cap, rfl, hlen, hc⟩ := h
  unfold maxLen at hlen
  have Hc := hide hc
  clear hc
  have S0 := hide (L1.start w)
  go_enter Try.func27, Try.ntmps27
  go_wp2
  go_loopw [4] (fun i wr => ∃ (k : Nat) (v : Value), i = .int .i64 k ∧ (k ≤ cs.length ∧ k ≤ 4000) ∧ L1 w wr v (cs.take k) 0 0) (fun i _ => 4000 - (intOf i).toNat)
  case atStart => exact ⟨0, _, rfl, ⟨by omega, by omega⟩, S0.out⟩
  case round =>
    obtain ⟨k, v, rfl, ⟨hk1, hk2⟩, hL⟩ := hrel
    have HL := hide hL
    clear hL
    have hkl : (cs.take k).length = k := by rw [List.length_take]; omega
    by_cases hboth : k < cs.length ∧ k < 4000
    · obtain ⟨hlt, h4⟩ := hboth
      rcases Hc.out with h0 | ⟨cb, off, rfl, hcb, hcell⟩
      · rw [h0] at hlt; simp at hlt
      obtain ⟨hx, hx0, hx1⟩ := hcell k hlt
      have hxr := (HL.out.bl.cell (p := ⟨cb, off + k, none⟩) hcb).trans hx
      have hsn := hide (take_snocI cs k hlt)
      generalize cs.getD k 0 = x at hxr hx0 hx1 hsn
      clear hx hcell
      have c0 := HL.out.c0
      have cf := HL.out.fz
      have hszr : w.heap.size < wr.heap.size := HL.out.sz
      have hi0' : (0 : Int) ≤ (k : Int) := Int.natCast_nonneg _
      have hi1 : (k : Int) < (cs.length : Int) := by omega
      have d1 : decide ((k : Int) < (cs.length : Int)) = true := decide_eq_true hi1
      have d2 : decide ((k : Int) < 4000) = true := decide_eq_true (by omega)
      have Hown := HL.out.own
      have Hkl := hide hkl
      rw [hkl] at Hown
      clear hkl
      go_wp2_with fail
      go_region_law (refine step_append_lies _ (by rfl) (.tmp 18) (.tmp 23) 24 (by rfl) (w.heap.size + 1) 5 i0 (.int .u8 0) 1 1 Try.underlying24 hi0 hz0 hz1 hz2 rfl (by omega) v k (u8s (cs.take k)) (by rfl) ((Hown.alloc _).drew) ⟨wr.heap.size, 0, none⟩ 1 1 [.int .u8 x] (by rfl) (by rfl) (World.news_of_block (cs := #[.int .u8 x]) (t := 5) (fr := (0, 0)) (heap_alloc_new wr _)) (by simp [Value.oneCell']) (by omega) (by unfold maxLen; omega) (by omega) (by have := HL.out.sz; simp; omega) (wr.heap.size + 1) (by simp) ?_; intro g cap2 w1 hown1 hgrow hat hlt2; have e0 := (HL.out.far x hgrow).1; have ef := (HL.out.far x hgrow).2)
      all_goals (have St := hide (HL.out.step x ⟨hx0, hx1⟩ g cap2 (by rw [Hkl.out]; exact hown1) hgrow); rw [Hkl.out, ← hsn.out] at St; clear hown1 hgrow hat hlt2)
      all_goals go_wp2
      all_goals go_roundw
      all_goals first | exact ⟨k + 1, _, by go_num, ⟨by omega, by omega⟩, St.out⟩ | (simp [intOf]; omega)
    · have c0 := HL.out.c0
      have c2 := HL.out.c2
      have cf := HL.out.fz
      have hszr : w.heap.size < wr.heap.size := HL.out.sz
      have M0 := hide (HL.out.setMix ((cs.length : Int) % 1000 + 41))
      have hsl : ∃ a cp, v = .slice a k cp := by
        obtain ⟨a, cp, e⟩ := own_form2 HL.out.own
        rw [hkl] at e
        exact ⟨a, cp, e⟩
      obtain ⟨sa', sc, rfl⟩ := hsl
      have hk4 : Hid (cs.take k = cs.take 4000) := by
        show cs.take k = cs.take 4000
        by_cases e : k = 4000
        · rw [e]
        · have : k = cs.length := by omega
          rw [List.take_of_length_le (by omega), List.take_of_length_le (by omega)]
      have hdd2 : ((k : Int) < (cs.length : Int) ∧ ¬ (k : Int) < 4000 ∧ decide ((k : Int) < (cs.length : Int)) = true ∧ decide ((k : Int) < 4000) = false) ∨ (¬ (k : Int) < (cs.length : Int) ∧ decide ((k : Int) < (cs.length : Int)) = false) := by
        by_cases h1 : (k : Int) < (cs.length : Int)
        · have h2 : ¬ (k : Int) < 4000 := by omega
          exact Or.inl ⟨h1, h2, decide_eq_true h1, decide_eq_false h2⟩
        · exact Or.inr ⟨h1, decide_eq_false h1⟩
      clear hboth
      have Hfin : Hid (∀ (W : World) (z : Int), z = sizeL (cs.take k) → L1 w W (.slice sa' k sc) (cs.take k) (mixL cs.length (cs.take k)) z → SourceOk w cs (.returned (.pointer (some ⟨w.heap.size, 0, none⟩))) W) := fun W z hz hl => by
        subst hz
        have hb := mixL_bd cs.length (cs.take k)
        have hs := hl.src (by omega) hb (by unfold sizeL; split <;> omega)
        have e := hk4.out
        rw [e] at hs
        exact ⟨_, _, rfl, hs, Nat.le_refl _, hl.bl⟩
      have hszL : Hid (sizeL (cs.take k) = if 7 < 1 + (k : Int) / 50 then 7 else 1 + (k : Int) / 50) := by show sizeL _ = _; unfold sizeL; rw [hkl]
      have Hm0 : Hid ((cs.length : Int) % 1000 + 41 = mixL cs.length ((cs.take k).take 0)) := by show _ = mixL _ _; simp [mixL]
      have Hms := hide (fun j (hj : j < (cs.take k).length) => mixL_snoc cs.length (cs.take k) j hj)
      have Hmb := hide (fun (j : Nat) => mixL_bd cs.length ((cs.take k).take j))
      have Hfull : Hid ((cs.take k).take k = cs.take k) := by show (cs.take k).take k = _; rw [List.take_take, Nat.min_self]
      have Hkl := hide hkl
      rcases hdd2 with ⟨hq1, hq2, d1, d2⟩ | ⟨hq1, d1⟩
      all_goals
        generalize hTT : cs.take k = T at HL M0 Hfin hszL Hm0 Hms Hmb Hfull Hkl
        clear hkl hk4 hTT
        go_wp2
        go_loopw [5] (fun i wr2 => ∃ (j : Nat) (mix : Int), i = .int .i64 j ∧ j ≤ k ∧ Hid (mix = mixL cs.length (T.take j)) ∧ L1 w wr2 (.slice sa' k sc) T mix 0) (fun i _ => k - (intOf i).toNat)
        case atStart => exact ⟨0, _, rfl, by omega, Hm0, M0.out⟩
        case round =>
          obtain ⟨j, mix, rfl, hj, hm, hL2⟩ := hrel
          have H2 := hide hL2
          clear hL2
          have e0 := H2.out.c0
          have e2 := H2.out.c2
          have e3 := H2.out.c3
          have ef := H2.out.fz
          have hmb : 0 ≤ mix ∧ mix < 1000003 := by rw [hm.out]; exact Hmb.out j
          by_cases hjk : j < k
          · obtain ⟨g, cp, hv, hx, hg⟩ := H2.out.byte (j := j) (by rw [Hkl.out]; exact hjk)
            have hx01 := H2.out.byt j (by rw [Hkl.out]; exact hjk)
            have hms := Hms.out j (by rw [Hkl.out]; exact hjk)
            rw [← hm.out] at hms
            generalize T.getD j 0 = x at hx hx01 hms
            have Hms2 := hide hms
            have hsa : sa' = some ⟨g, 0, none⟩ := by cases hv; rfl
            subst hsa
            have hj0 : (0 : Int) ≤ (j : Int) := Int.natCast_nonneg _
            have hj1 : (j : Int) < (k : Int) := by omega
            clear hv hms
            go_wp2_with fail
            go_region
            all_goals go_wp2
            all_goals go_roundw
            all_goals first | exact ⟨j + 1, (mix * 257 + x + 1) % 1000003, by go_num, by omega, Hms2.out.symm, (H2.out.setMix _).drew⟩ | (simp [intOf]; omega)
          · have hb : 1 ≤ 1 + (k : Int) / 50 := by omega
            have hjj : j = k := by omega
            subst hjj
            have hmm := hm.out
            rw [Hfull.out] at hmm
            have Hmm := hide hmm
            clear hmm
            by_cases h7 : 7 < 1 + (j : Int) / 50
            · rw [if_pos h7] at hszL
              go_wp2
              go_ret
              have Z := (H2.out.setSize (1 + (j : Int) / 50)).setSize 7
              rw [Hmm.out] at Z
              exact Hfin.out _ 7 hszL.out.symm Z
            · rw [if_neg h7] at hszL
              first
                | (exfalso; omega)
                | (go_wp2
                   go_ret
                   have Z := H2.out.setSize (1 + (j : Int) / 50)
                   rw [Hmm.out] at Z
                   exact Hfin.out _ _ hszL.out.symm Z)
end Go.Proofs.Ytjjemnlknnnkbaa
