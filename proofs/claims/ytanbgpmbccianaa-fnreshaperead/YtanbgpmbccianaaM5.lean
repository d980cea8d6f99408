import Derived.Test.YtanbgpmbccianaaSpecBR
import Derived.Deep.AppendLies
import Derived.WalkKit
import Derived.Deep.QuietTactic
namespace Go.Proofs.Ytanbgpmbccianaa
open Go.ChangeShapes Go.RowKit
set_option linter.unusedSimpArgs false
set_option linter.unusedVariables false

/-- A list that is built by append. -/
structure CL (w wr : World) (L : List Int) (v : Value) : Prop where
  own : wr.ownsRow w.heap.size 2 1 v L.length (L.map (Value.int .i64))
  bl : Bel w wr
theorem CL.step {w wr w3 : World} {L : List Int} {v v3 : Value} (h : CL w wr L v) (x : Int)
    (hown : w3.ownsRow w.heap.size 2 1 v3 (L.length + 1) (L.map (Value.int .i64) ++ [.int .i64 x])) (hgrow : (wr.alloc (.cells #[.int .i64 x] 2)).grownBy w3 v.ownBlock) : CL w w3 (L ++ [x]) v3 := by
  refine ⟨?_, (h.bl.alloc (Below.size h.bl) _).grown hgrow (by have := Below.size h.bl; simp; omega) (fun j hj => (h.own.lt j hj).1)⟩
  rw [List.length_append, List.map_append]
  exact hown
theorem CL.keep {w wr W : World} {L : List Int} {v : Value} (h : CL w wr L v) (x : Bel wr W) : CL w W L v :=
  ⟨own_below h.own x (fun g hg => (h.own.lt g hg).2), Bel.tr h.bl x⟩
theorem CL.start (w : World) : CL w (w.alloc (.cells #[] 2)) [] (.slice (some ⟨w.heap.size, 0, none⟩) 0 0) :=
  ⟨World.ownsRow_made (base := w.heap.size) (e := 2) (size := 1) w #[] 0 (Nat.le_refl _) (by unfold maxLen; omega) rfl, ((Ext.refl w).alloc _ _).bl⟩
theorem CL.szD {w wr : World} {L : List Int} {v : Value} (h : CL w wr L v) (x : Int) : w.heap.size ≤ (wr.alloc (.cells #[.int .i64 x] 2)).drew.heap.size := by
  have h1 : wr.heap.size ≤ (wr.alloc (.cells #[.int .i64 x] 2)).heap.size := Below.size ((Ext.refl wr).alloc #[.int .i64 x] 2).bl
  exact Nat.le_trans (Below.size h.bl) h1
theorem CL.szP {w wr : World} {L : List Int} {v : Value} (h : CL w wr L v) (x : Int) : w.heap.size ≤ (wr.alloc (.cells #[.int .i64 x] 2)).heap.size := h.szD x
def CRel (w : World) (xs : List Int) (o i : Value) (wr : World) : Prop := ∃ k : Nat, i = .int .i64 k ∧ k ≤ xs.length ∧ (∃ s c, o = .slice s k c) ∧ CL w wr (xs.take k) o

/-- A block of plain numbers, with room for cap. -/
def Pln (w : World) (g n cap : Nat) : Prop := ∃ cur, w.heap[g]? = some (.cells cur 2 (0, 0)) ∧ n ≤ cap ∧ cap ≤ maxLen ∧ cur.size = cap
theorem Pln.lt {w : World} {g n cap : Nat} (h : Pln w g n cap) : g < w.heap.size := by
  obtain ⟨cur, h1, _⟩ := h
  rcases Nat.lt_or_ge g w.heap.size with q | q
  · exact q
  · rw [Array.getElem?_eq_none q] at h1; cases h1
theorem Pln.of {w w' : World} {g n cap : Nat} (h : Pln w g n cap) (e : w'.heap[g]? = w.heap[g]?) : Pln w' g n cap := by
  obtain ⟨cur, h1, h2⟩ := h
  exact ⟨cur, e.trans h1, h2⟩
theorem Pln.bel {w w' : World} {g n cap : Nat} (h : Pln w g n cap) (x : Bel w w') : Pln w' g n cap := h.of (Below.block x g h.lt)
theorem Pln.mut {w w' : World} {R g n cap : Nat} (h : Pln w g n cap) (m : Mut R w w') (hR : g ≠ R) : Pln w' g n cap := h.of (m.block g h.lt hR)
theorem Pln.set {w : World} {g n cap : Nat} (h : Pln w g n cap) (j : Nat) (u : Value) : Pln (w.setCell ⟨g, j, none⟩ u) g n cap := by
  obtain ⟨cur, h1, h2, h3, h4⟩ := h
  exact ⟨cur.setIfInBounds j u, heap_setCell_same w g j cur 2 u h1, h2, h3, by simpa using h4⟩
theorem own_pln {w : World} {base g n m cap : Nat} {L : List Value} (h : w.ownsRow base 2 1 (.slice (some ⟨g, 0, none⟩) n cap) m L) : Pln w g n cap := by
  rcases h.2 with ⟨h1, _⟩ | ⟨g', cap', cur, h1, h2, h3, h4, h5, h6, _⟩
  · cases h1
  · simp only [Value.slice.injEq, Option.some.injEq, Addr.mk.injEq, and_true, true_and] at h1
    obtain ⟨rfl, rfl, rfl⟩ := h1
    exact ⟨cur, h3, h4, h5, by simpa using h6⟩
theorem own_mk {w : World} {base g cap : Nat} {L : List Int} (hr : Row w g 0 L) (h : Pln w g L.length cap) (hb : base ≤ g) : w.ownsRow base 2 1 (.slice (some ⟨g, 0, none⟩) L.length cap) L.length (L.map (Value.int .i64)) := by
  obtain ⟨cur, h1, h2, h3, h4⟩ := h
  refine ⟨by simp, Or.inr ⟨g, cap, cur, rfl, hb, h1, h2, h3, by simpa using h4, ?_⟩⟩
  apply List.ext_getElem
  · simp; omega
  · intro j g1 g2
    have hj : j < L.length := by simpa using g2
    have := hr j hj
    rw [Nat.zero_add] at this
    have hc : cur[j]? = some (.int .i64 (L.getD j 0)) := by
      simpa [World.cell?, h1] using this
    have hj2 : j < cur.size := by omega
    rw [Array.getElem?_eq_getElem hj2] at hc
    injection hc with hc
    simp only [List.getElem_take, Array.getElem_toList, List.getElem_map]
    rw [hc, List.getD_eq_getElem?_getD, List.getElem?_eq_getElem hj]
    rfl
/-- A list of one's own, with its room. -/
def OwnC (w' : World) (lo : Nat) (sa : Option Addr) (cap : Nat) (L : List Int) : Prop := OwnI w' lo sa L ∧ w'.ownsRow lo 2 1 (.slice sa L.length cap) L.length (L.map (Value.int .i64))
def ListOw (w : World) (L : List Int) (e : Ending) (w' : World) : Prop :=
  ∃ (sa : Option Addr) (cap : Nat), e = .returned (.slice sa L.length cap) ∧ OwnC w' w.heap.size sa cap L ∧ Below w.heap.size w w'

theorem own_get {w' : World} {lo : Nat} {sa : Option Addr} {L : List Int} (h : OwnI w' lo sa L) (hL : 0 < L.length) : ∃ g, sa = some ⟨g, 0, none⟩ ∧ lo ≤ g ∧ Row w' g 0 L ∧ ∀ o, w'.frozen? ⟨g, o, none⟩ = false := by
  rcases h with rfl | h
  · simp at hL
  · exact h

set_option maxRecDepth 100000 in
set_option maxHeartbeats 2000000 in
theorem copyList_own {w : World} {v : Value} {xs : List Int} (h : Ints w v xs) (hl : xs.length ≤ 4) :
    Calls Try.prog 25 #[v] w fun e w' => ListOw w xs e w' := by
  obtain ⟨i0, hi0, hz0, hz1, hz2⟩ := info_parts info2
  obtain ⟨sa, cap, rfl, hx⟩ := h
  have HX := hide hx
  clear hx
  have hone : 0 < 1 := Nat.one_pos
  have S0 := hide (CL.start w)
  go_enter Try.func25, Try.ntmps25
  go_wp2_with fail
  go_loopw [3, 4] (fun o i wr => CRel w xs o i wr) (fun o i _ => xs.length - (intOf i).toNat)
  case atStart => exact ⟨0, rfl, by omega, ⟨_, _, rfl⟩, by simpa using S0.out⟩
  case round =>
    obtain ⟨k, rfl, hk, ⟨s, c, rfl⟩, hC⟩ := hrel
    have HC := hide hC
    clear hC
    by_cases hlt : k < xs.length
    · rcases HX.out with h0 | ⟨b, off, rfl, hrow⟩
      · rw [h0] at hlt; simp at hlt
      have q0 := Bel.box HC.out.bl (hrow k hlt)
      have hk0 : (0 : Int) ≤ (k : Int) := Int.natCast_nonneg _
      have hk1 : (k : Int) < (xs.length : Int) := by omega
      have hlT : (xs.take k).length = k := by rw [List.length_take]; omega
      have hsn := hide (take_snoc xs k hlt)
      generalize xs.getD k 0 = x at q0 hsn
      generalize hT : xs.take k = T at HC hlT hsn
      subst hlT
      go_wp2_with (at_builtin; (refine wpList_append_own _ rfl _ _ 23 rfl w.heap.size 2 i0 (.int .i64 0) 1 8 Try.underlying23 hi0 hz0 hz1 hz2 rfl (by decide) _ _ _ rfl (HC.out.own.alloc _) ⟨wr.heap.size, 0, none⟩ 1 1 [.int .i64 x] rfl rfl (cell_one_new _ _ _) (one_val _) (by unfold maxLen; omega) (by omega) (HC.out.szP x) ?_); intro v3 w3 hown3 hgrow3 hnil3)
      have St := HC.out.step x hown3 hgrow3
      obtain ⟨s3, c3, rfl⟩ := own_form2 hown3
      have HSt := hide St
      clear St hown3 hgrow3 hnil3
      go_wp2
      go_roundw
      · exact ⟨T.length + 1, by go_num, by omega, ⟨_, _, rfl⟩, by rw [hsn.out]; exact HSt.out⟩
      · simp [intOf]; omega
    · have hkk : k = xs.length := by omega
      subst hkk
      have hC := HC.out
      rw [List.take_length] at hC
      have HC2 := hide hC
      clear hC HC
      go_wp2
      go_ret
      obtain ⟨sb, cb, hv, ho⟩ := own_of (w := w) (Nat.le_refl _) HC2.out.own
      have hw := HC2.out.own
      rw [hv] at hw
      exact ⟨sb, cb, congrArg Ending.returned hv, ⟨ho, hw⟩, HC2.out.bl⟩
theorem copyList_any {w : World} {v : Value} {xs : List Int} (h : Ints w v xs) (hl : xs.length ≤ 4) :
    Calls Try.prog 25 #[v] w fun e w' => ListOk w xs e w' :=
  (copyList_own h hl).mono fun e w' h => by
    obtain ⟨sa, cap, h1, h2, h3⟩ := h
    exact ⟨sa, cap, h1, h2.1, h3⟩
/-- A copy of a view, its lists at g and h. -/
def CVOk (w : World) (xs ss : List Int) (off : Int) (e : Ending) (w' : World) : Prop :=
  ∃ g h ca cb : Nat, e = .returned (.agg #[.slice (some ⟨g, 0, none⟩) xs.length ca, .slice (some ⟨h, 0, none⟩) ss.length cb, .int .i64 off]) ∧ w.heap.size ≤ g ∧ g < h ∧ h < w'.heap.size ∧ Row w' g 0 xs ∧ Row w' h 0 ss ∧ (∀ o, w'.frozen? ⟨g, o, none⟩ = false) ∧ (∀ o, w'.frozen? ⟨h, o, none⟩ = false) ∧ Pln w' g xs.length ca ∧ Pln w' h ss.length cb ∧ Bel w w'

set_option maxRecDepth 100000 in
set_option maxHeartbeats 4000000 in
theorem copyView_any {w : World} {vS vT : Value} {xs ss : List Int} (hS : Ints w vS xs) (hT : Ints w vT ss) (off : Int) (h4 : xs.length ≤ 4) (hl : ss.length = xs.length) (hx0 : 0 < xs.length) :
    Calls Try.prog 52 #[.agg #[vS, vT, .int .i64 off]] w fun e w' => CVOk w xs ss off e w' := by
  have x0 : Ext w ((w.alloc (.cells #[vS, vT, .int .i64 off] 25)).alloc (.cells #[.slice none 0 0, .slice none 0 0, .int .i64 0] 25)) := ((Ext.refl w).alloc _ _).alloc _ _
  have y1 : Ext (w.alloc (.cells #[vS, vT, .int .i64 off] 25)) ((w.alloc (.cells #[vS, vT, .int .i64 off] 25)).alloc (.cells #[.slice none 0 0, .slice none 0 0, .int .i64 0] 25)) := (Ext.refl _).alloc _ _
  have n1 := fun j => new_cell w #[vS, vT, .int .i64 off] 25 w.heap.size rfl j
  have n2 := fun j => new_cell (w.alloc (.cells #[vS, vT, .int .i64 off] 25)) #[.slice none 0 0, .slice none 0 0, .int .i64 0] 25 (w.heap.size + 1) (by simp) j
  have p0 : ((w.alloc (.cells #[vS, vT, .int .i64 off] 25)).alloc (.cells #[.slice none 0 0, .slice none 0 0, .int .i64 0] 25)).cell? ⟨w.heap.size, 0, none⟩ = some vS := y1.box (n1 0)
  have p1 : ((w.alloc (.cells #[vS, vT, .int .i64 off] 25)).alloc (.cells #[.slice none 0 0, .slice none 0 0, .int .i64 0] 25)).cell? ⟨w.heap.size, 1, none⟩ = some vT := y1.box (n1 1)
  have p2 : ((w.alloc (.cells #[vS, vT, .int .i64 off] 25)).alloc (.cells #[.slice none 0 0, .slice none 0 0, .int .i64 0] 25)).cell? ⟨w.heap.size, 2, none⟩ = some (.int .i64 off) := y1.box (n1 2)
  have r0 : ((w.alloc (.cells #[vS, vT, .int .i64 off] 25)).alloc (.cells #[.slice none 0 0, .slice none 0 0, .int .i64 0] 25)).cell? ⟨w.heap.size + 1, 0, none⟩ = some (.slice none 0 0) := n2 0
  have r1 : ((w.alloc (.cells #[vS, vT, .int .i64 off] 25)).alloc (.cells #[.slice none 0 0, .slice none 0 0, .int .i64 0] 25)).cell? ⟨w.heap.size + 1, 1, none⟩ = some (.slice none 0 0) := n2 1
  have r2 : ((w.alloc (.cells #[vS, vT, .int .i64 off] 25)).alloc (.cells #[.slice none 0 0, .slice none 0 0, .int .i64 0] 25)).cell? ⟨w.heap.size + 1, 2, none⟩ = some (.int .i64 0) := n2 2
  have HS := hide (hS.ext x0)
  have HT := hide (hT.ext x0)
  have X0 := hide x0
  have sz0 : Hid (((w.alloc (.cells #[vS, vT, .int .i64 off] 25)).alloc (.cells #[.slice none 0 0, .slice none 0 0, .int .i64 0] 25)).heap.size = w.heap.size + 2) := by show ((w.alloc (.cells #[vS, vT, .int .i64 off] 25)).alloc (.cells #[.slice none 0 0, .slice none 0 0, .int .i64 0] 25)).heap.size = w.heap.size + 2; simp
  obtain ⟨sa, ca, rfl, _⟩ := hS
  obtain ⟨sb, cb, rfl, _⟩ := hT
  clear x0 y1 n1 n2
  have Hl := hide hl
  clear hl
  go_enter Try.func52, Try.ntmps52
  go_wp2_with fail
  generalize hW : ((w.alloc (.cells #[.slice sa xs.length ca, .slice sb ss.length cb, .int .i64 off] 25)).alloc (.cells #[.slice none 0 0, .slice none 0 0, .int .i64 0] 25)) = V0 at p0 p1 p2 r0 r1 r2 HS HT X0 sz0 ⊢
  clear hW
  have SA : Hid ((fun w' => w'.cell? ⟨w.heap.size, 0, none⟩ = some (.slice sa xs.length ca) ∧ w'.cell? ⟨w.heap.size, 1, none⟩ = some (.slice sb ss.length cb) ∧ w'.cell? ⟨w.heap.size, 2, none⟩ = some (.int .i64 off)) V0.drew) := ⟨p0, p1, p2⟩
  have HS1 := hide (HS.out.below (bel_drew V0))
  have HT1 := hide (HT.out.below (bel_drew V0))
  have B1 := hide (Bel.tr X0.out.bl (bel_drew V0))
  have sz1 : Hid (V0.drew.heap.size = w.heap.size + 2) := sz0.out
  have rf : ∀ o, V0.drew.frozen? ⟨w.heap.size + 1, o, none⟩ = false := fun o => X0.out.unfrozen (b := w.heap.size + 1) (by omega) o
  have d0 : V0.drew.cell? ⟨w.heap.size + 1, 0, none⟩ = some (.slice none 0 0) := r0
  have d1 : V0.drew.cell? ⟨w.heap.size + 1, 1, none⟩ = some (.slice none 0 0) := r1
  have d2 : V0.drew.cell? ⟨w.heap.size + 1, 2, none⟩ = some (.int .i64 0) := r2
  clear p0 p1 p2 r0 r1 r2 HS HT X0 sz0
  go_region_held3 (fun w' => w'.cell? ⟨w.heap.size, 0, none⟩ = some (.slice sa xs.length ca) ∧ w'.cell? ⟨w.heap.size, 1, none⟩ = some (.slice sb ss.length cb) ∧ w'.cell? ⟨w.heap.size, 2, none⟩ = some (.int .i64 off)) (first | with_reducible exact SA.out | with_reducible exact SB'.out | with_reducible exact SC'.out | with_reducible exact SD'.out | exact SA.out | fail) (first | (go_at_call 25; refine (copyList_own HT3.out (by rw [Hl.out]; exact h4)).mono ?_; rintro e w4 ⟨s4, c4, rfl, hO4, x4⟩; obtain ⟨h, rfl, hh1, hh2, hh3⟩ := own_get hO4.1 (by rw [Hl.out]; exact hx0); have P4 := hide (own_pln hO4.2); have H4 : Hid (w3.heap.size ≤ h ∧ h < w4.heap.size ∧ Row w4 h 0 ss ∧ ∀ o, w4.frozen? ⟨h, o, none⟩ = false) := ⟨hh1, cell_lt (hh2 0 (by rw [Hl.out]; exact hx0)), hh2, hh3⟩; have X4 := hide x4; have x34 := Bel.tr X3.out x4; have u0 := Bel.box x34 d0; have u1 := Bel.box x34 d1; have u2 := Bel.box x34 d2; have uf : ∀ o, w4.frozen? ⟨w.heap.size + 1, o, none⟩ = false := fun o => (Below.frozen x34 (p := ⟨w.heap.size + 1, o, none⟩) (cell_lt d0)).trans (rf o); have SC' : Hid ((fun w' => w'.cell? ⟨w.heap.size, 0, none⟩ = some (.slice sa xs.length ca) ∧ w'.cell? ⟨w.heap.size, 1, none⟩ = some (.slice sb ss.length cb) ∧ w'.cell? ⟨w.heap.size, 2, none⟩ = some (.int .i64 off)) w4) := ⟨Bel.box x4 SB'.out.1, Bel.box x4 SB'.out.2.1, Bel.box x4 SB'.out.2.2⟩; have SD' : Hid ((fun w' => w'.cell? ⟨w.heap.size, 0, none⟩ = some (.slice sa xs.length ca) ∧ w'.cell? ⟨w.heap.size, 1, none⟩ = some (.slice sb ss.length cb) ∧ w'.cell? ⟨w.heap.size, 2, none⟩ = some (.int .i64 off)) (((w4.setCell ⟨w.heap.size + 1, 0, none⟩ (.slice (some ⟨g, 0, none⟩) xs.length c3)).setCell ⟨w.heap.size + 1, 1, none⟩ (.slice (some ⟨h, 0, none⟩) ss.length c4)).setCell ⟨w.heap.size + 1, 2, none⟩ (.int .i64 off))) := ⟨far3 SC'.out.1, far3 SC'.out.2.1, far3 SC'.out.2.2⟩; clear hO4 hh1 hh2 hh3 x4 x34) | (go_at_call 25; refine (copyList_own HS1.out h4).mono ?_; rintro e w3 ⟨s3, c3, rfl, hO3, x3⟩; obtain ⟨g, rfl, hg1, hg2, hg3⟩ := own_get hO3.1 hx0; have P3 := hide (own_pln hO3.2); have H3 : Hid (V0.drew.heap.size ≤ g ∧ g < w3.heap.size ∧ Row w3 g 0 xs ∧ ∀ o, w3.frozen? ⟨g, o, none⟩ = false) := ⟨hg1, cell_lt (hg2 0 hx0), hg2, hg3⟩; have X3 := hide x3; have HT3 := hide (HT1.out.below x3); have SB' : Hid ((fun w' => w'.cell? ⟨w.heap.size, 0, none⟩ = some (.slice sa xs.length ca) ∧ w'.cell? ⟨w.heap.size, 1, none⟩ = some (.slice sb ss.length cb) ∧ w'.cell? ⟨w.heap.size, 2, none⟩ = some (.int .i64 off)) w3) := ⟨Bel.box x3 SA.out.1, Bel.box x3 SA.out.2.1, Bel.box x3 SA.out.2.2⟩; clear hO3 hg1 hg2 hg3 x3) | fail)
  all_goals go_wp2
  all_goals
    have m : Mut (w.heap.size + 1) w4 (((w4.setCell ⟨w.heap.size + 1, 0, none⟩ (.slice (some ⟨g, 0, none⟩) xs.length c3)).setCell ⟨w.heap.size + 1, 1, none⟩ (.slice (some ⟨h, 0, none⟩) ss.length c4)).setCell ⟨w.heap.size + 1, 2, none⟩ (.int .i64 off)) := (((Mut.refl _ _).setCell _ _).setCell _ _).setCell _ _
    have hz := sz1.out
    have h3 := H3.out
    have h4' := H4.out
    have hsz := m.size
    refine bodyPost_ret (v := .agg #[.slice (some ⟨g, 0, none⟩) xs.length c3, .slice (some ⟨h, 0, none⟩) ss.length c4, .int .i64 off]) (by simp [results, Try.results52, go_sem, set3_0 u0, set3_1 u1, set3_2 u2]) rfl ⟨g, h, c3, c4, rfl, by omega, by omega, by omega, ?_, h4'.2.2.1.mut m (by omega), fun o => (m.fz _).trans ((Below.frozen X4.out (p := ⟨g, o, none⟩) (by show g < w3.heap.size; omega)).trans (h3.2.2.2 o)), fun o => (m.fz _).trans (h4'.2.2.2 o), (P3.out.bel X4.out).mut m (by omega), P4.out.mut m (by omega), ?_⟩
    · exact Row.mut (fun j hj => Bel.box X4.out (h3.2.2.1 j hj)) m (by omega)
    · exact (((Bel.tr (Bel.tr B1.out X3.out) X4.out).setCell (by show w.heap.size ≤ w.heap.size + 1; omega) _).setCell (by show w.heap.size ≤ w.heap.size + 1; omega) _).setCell (by show w.heap.size ≤ w.heap.size + 1; omega) _
end Go.Proofs.Ytanbgpmbccianaa
namespace Go.Proofs.Ytanbgpmbccianaa
open Go.ChangeShapes Go.RowKit
set_option linter.unusedSimpArgs false
set_option linter.unusedVariables false

/-- The state of a source of draws: how many bytes are used, the mix. -/
abbrev SS := Nat × Int
/-- One draw below m. -/
def nextL (cs : List Int) (s : SS) (m : Int) : Int × SS :=
  if m ≤ 1 then (0, s)
  else if s.1 < cs.length ∧ m ≤ 256 then (cs.getD s.1 0 % m, (s.1 + 1, s.2))
  else ((s.2 * 1103 + 12347) % 1000003 / 3 % m, (s.1, (s.2 * 1103 + 12347) % 1000003))
/-- A source of draws lies in block b. -/
structure Src (w : World) (b : Nat) (sv : Value) (cs : List Int) (s : SS) (size : Int) : Prop where
  c0 : w.cell? ⟨b, 0, none⟩ = some sv
  c1 : w.cell? ⟨b, 1, none⟩ = some (.int .i64 s.1)
  c2 : w.cell? ⟨b, 2, none⟩ = some (.int .i64 s.2)
  c3 : w.cell? ⟨b, 3, none⟩ = some (.int .i64 size)
  fz : ∀ o, w.frozen? ⟨b, o, none⟩ = false
  atn : s.1 ≤ cs.length
  nle : cs.length ≤ 4000
  mix0 : 0 ≤ s.2
  mix1 : s.2 < 1000003
  size0 : 1 ≤ size
  size1 : size ≤ 7
  byt : ∀ j, j < cs.length → 0 ≤ cs.getD j 0 ∧ cs.getD j 0 < 256
  code : (cs = [] ∧ sv = .slice none 0 0) ∨ ∃ g cap, sv = .slice (some ⟨g, 0, none⟩) cs.length cap ∧ g ≠ b ∧ ∀ j, j < cs.length → w.cell? ⟨g, j, none⟩ = some (.int .u8 (cs.getD j 0))

theorem Src.keep {w w' : World} {b : Nat} {sv : Value} {cs : List Int} {s : SS} {size : Int} (h : Src w b sv cs s size) (x : Bel w w') : Src w' b sv cs s size := by
  have hb := cell_lt h.c0
  refine ⟨Bel.box x h.c0, Bel.box x h.c1, Bel.box x h.c2, Bel.box x h.c3, fun o => (Below.frozen x (p := ⟨b, o, none⟩) hb).trans (h.fz o), h.atn, h.nle, h.mix0, h.mix1, h.size0, h.size1, h.byt, ?_⟩
  rcases h.code with hc | ⟨g, cap, h1, h2, h3⟩
  · exact Or.inl hc
  · exact Or.inr ⟨g, cap, h1, h2, fun j hj => Bel.box x (h3 j hj)⟩
theorem Src.upd {w w' : World} {b : Nat} {sv : Value} {cs : List Int} {s : SS} {size : Int} (h : Src w b sv cs s size) (m : Mut b w w') (s2 : SS)
    (c0 : w'.cell? ⟨b, 0, none⟩ = some sv) (c1 : w'.cell? ⟨b, 1, none⟩ = some (.int .i64 s2.1)) (c2 : w'.cell? ⟨b, 2, none⟩ = some (.int .i64 s2.2)) (c3 : w'.cell? ⟨b, 3, none⟩ = some (.int .i64 size))
    (hb : s2.1 ≤ cs.length) (hm : 0 ≤ s2.2) (hm2 : s2.2 < 1000003) : Src w' b sv cs s2 size := by
  refine ⟨c0, c1, c2, c3, fun o => (m.fz _).trans (h.fz o), hb, h.nle, hm, hm2, h.size0, h.size1, h.byt, ?_⟩
  rcases h.code with hc | ⟨g, cap, h1, h2, h3⟩
  · exact Or.inl hc
  · exact Or.inr ⟨g, cap, h1, h2, fun j hj => m.box h2 (h3 j hj)⟩

/-- l1Next at most one: 0, nothing drawn. -/
theorem l1next_one (b : Nat) (m : Int) (hm : m ≤ 1) (w : World) :
    Calls Try.prog 13 #[.pointer (some ⟨b, 0, none⟩), .int .i64 m] w fun e w' => e = .returned (.int .i64 0) ∧ w' = w := by
  go_enter Try.func13, Try.ntmps13
  go_wp2
  go_ret
  exact ⟨rfl, rfl⟩

theorem l1next_byte (b : Nat) (m : Int) (hm : 1 < m) (hm2 : m ≤ 256) (g cap n : Nat) (at_ x : Int) (w : World) (hn : n ≤ 4000) (hx0 : 0 ≤ x) (hx1 : x < 256)
    (c0 : w.cell? ⟨b, 0, none⟩ = some (.slice (some ⟨g, 0, none⟩) n cap)) (c1 : w.cell? ⟨b, 1, none⟩ = some (.int .i64 at_)) (fz : ∀ o, w.frozen? ⟨b, o, none⟩ = false)
    (ha : 0 ≤ at_) (hlt : at_ < n) (hc : w.cell? ⟨g, at_.toNat, none⟩ = some (.int .u8 x)) :
    Calls Try.prog 13 #[.pointer (some ⟨b, 0, none⟩), .int .i64 m] w fun e w' => e = .returned (.int .i64 (x % m)) ∧ ∃ k, w' = (w.setCell ⟨b, 1, none⟩ (.int .i64 (at_ + 1))).drewN k := by
  have d1 : decide (at_ < (n : Int)) = true := decide_eq_true hlt
  have d2 : decide (m ≤ 256) = true := decide_eq_true hm2
  go_enter Try.func13, Try.ntmps13
  go_wp2_with fail
  go_quiet (fail)
  go_wp2_with fail
  go_quiet (fail)
  go_wp2
  go_ret
  exact ⟨rfl, _, rfl⟩

theorem l1next_mix (b : Nat) (m : Int) (hm : 1 < m) (sv : Value) (n : Nat) (at_ mix : Int) (w : World)
    (hs : ∃ a cap, sv = .slice a n cap) (hn : n ≤ 4000)
    (c0 : w.cell? ⟨b, 0, none⟩ = some sv) (c1 : w.cell? ⟨b, 1, none⟩ = some (.int .i64 at_)) (c2 : w.cell? ⟨b, 2, none⟩ = some (.int .i64 mix)) (fz : ∀ o, w.frozen? ⟨b, o, none⟩ = false)
    (hor : ¬ (at_ < n ∧ m ≤ 256)) (hx0 : 0 ≤ mix) (hx1 : mix < 1000003) :
    Calls Try.prog 13 #[.pointer (some ⟨b, 0, none⟩), .int .i64 m] w fun e w' => e = .returned (.int .i64 ((mix * 1103 + 12347) % 1000003 / 3 % m)) ∧ ∃ k, w' = (w.setCell ⟨b, 2, none⟩ (.int .i64 ((mix * 1103 + 12347) % 1000003))).drewN k := by
  obtain ⟨a, cap, rfl⟩ := hs
  by_cases h1 : at_ < (n : Int)
  · have h2 : ¬ m ≤ 256 := fun h => hor ⟨h1, h⟩
    have d1 : decide (at_ < (n : Int)) = true := decide_eq_true h1
    have d2 : decide (m ≤ 256) = false := decide_eq_false h2
    clear hor
    go_enter Try.func13, Try.ntmps13
    go_wp2_with fail
    go_quiet (fail)
    go_wp2
    go_ret
    exact ⟨rfl, _, rfl⟩
  · have d1 : decide (at_ < (n : Int)) = false := decide_eq_false h1
    clear hor
    go_enter Try.func13, Try.ntmps13
    go_wp2_with fail
    go_quiet (fail)
    go_wp2
    go_ret
    exact ⟨rfl, _, rfl⟩

/-- l1Next -/
theorem l1next_any {w : World} {b : Nat} {sv : Value} {cs : List Int} {s : SS} {size : Int} (h : Src w b sv cs s size) (m : Int) :
    Calls Try.prog 13 #[.pointer (some ⟨b, 0, none⟩), .int .i64 m] w fun e w' => e = .returned (.int .i64 (nextL cs s m).1) ∧ Src w' b sv cs (nextL cs s m).2 size ∧ Mut b w w' := by
  unfold nextL
  by_cases hm : m ≤ 1
  · rw [if_pos hm]
    refine (l1next_one b m hm w).mono ?_
    rintro e w' ⟨rfl, rfl⟩
    exact ⟨rfl, h, Mut.refl _ _⟩
  rw [if_neg hm]
  by_cases hc : s.1 < cs.length ∧ m ≤ 256
  · rw [if_pos hc]
    rcases h.code with ⟨hn0, _⟩ | ⟨g, cap, hsv, hg, hb⟩
    · rw [hn0] at hc; simp at hc
    · have hx := hb s.1 hc.1
      have hxb := h.byt s.1 hc.1
      subst hsv
      refine (l1next_byte b m (by omega) hc.2 g cap cs.length s.1 (cs.getD s.1 0) w h.nle hxb.1 hxb.2 h.c0 h.c1 h.fz (by omega) (by omega) (by rw [Int.toNat_natCast]; exact hx)).mono ?_
      rintro e w' ⟨rfl, k, rfl⟩
      have hmm : Mut b w ((w.setCell ⟨b, 1, none⟩ (.int .i64 (s.1 + 1))).drewN k) := ((Mut.refl b w).setCell 1 _).drewN k
      refine ⟨rfl, h.upd hmm (s.1 + 1, s.2) ?_ ?_ ?_ ?_ (by simp only; omega) h.mix0 h.mix1, hmm⟩
      · simp [go_sem, h.c0]
      · simp [go_sem, h.c1]
      · simp [go_sem, h.c2]
      · simp [go_sem, h.c3]
  · rw [if_neg hc]
    have hsl : ∃ a cap, sv = .slice a cs.length cap := by
      rcases h.code with ⟨h1, h2⟩ | ⟨g, cap, h1, _⟩
      · exact ⟨none, 0, by rw [h2, h1]; rfl⟩
      · exact ⟨_, _, h1⟩
    refine (l1next_mix b m (by omega) sv cs.length s.1 s.2 w hsl h.nle h.c0 h.c1 h.c2 h.fz (by omega) h.mix0 h.mix1).mono ?_
    rintro e w' ⟨rfl, k, rfl⟩
    have hmm : Mut b w ((w.setCell ⟨b, 2, none⟩ (.int .i64 ((s.2 * 1103 + 12347) % 1000003))).drewN k) := ((Mut.refl b w).setCell 2 _).drewN k
    refine ⟨rfl, h.upd hmm (s.1, (s.2 * 1103 + 12347) % 1000003) ?_ ?_ ?_ ?_ h.atn (by simp only; omega) (by simp only; omega), hmm⟩
    · simp [go_sem, h.c0]
    · simp [go_sem, h.c1]
    · simp [go_sem, h.c2]
    · simp [go_sem, h.c3]
theorem nextL_bd (cs : List Int) (s : SS) (m : Int) (hs : 0 ≤ s.2) : 0 ≤ (nextL cs s m).1 ∧ (1 ≤ m → (nextL cs s m).1 < m) := by
  unfold nextL
  split
  · exact ⟨by simp, fun h => by simp; omega⟩
  · split
    · exact ⟨Int.emod_nonneg _ (by omega), fun h => Int.emod_lt_of_pos _ (by omega)⟩
    · exact ⟨Int.emod_nonneg _ (by omega), fun h => Int.emod_lt_of_pos _ (by omega)⟩
theorem Src.nextBd {w : World} {b : Nat} {sv : Value} {cs : List Int} {s : SS} {size : Int} (h : Src w b sv cs s size) (m : Int) : 0 ≤ (nextL cs s m).1 ∧ (1 ≤ m → (nextL cs s m).1 < m) := nextL_bd cs s m h.mix0
end Go.Proofs.Ytanbgpmbccianaa
