import Derived.Test.YtfhcpicddegblaaGreatM9
import Derived.Test.YtfhcpicddegblaaGreatM9
import Derived.Test.YtfhcpicddegblaaGreatM9
import Derived.Test.YtfhcpicddegblaaGreatM9
import Derived.Test.YtfhcpicddegblaaGreatFsHw
import Derived.Test.YtfhcpicddegblaaGreatFsFirst
namespace Go.Proofs.YtfhcpicddegblaaGreat
open Go.ChangeShapes Go.RowKit FL
set_option linter.unusedSimpArgs false
set_option linter.unusedVariables false

set_option maxRecDepth 100000 in
set_option maxHeartbeats 2000000 in
theorem l4Last_any {w : World} {v vS vT : Value} {ss : List St} {xs sv : List Int} (h : SV w v ss) (m : Nat) (off : Int) (hm : m < ss.length) (h8 : (ss.getD m s0).1 = 8) (hS : Ints w vS xs) (hT : Ints w vT sv) (lx : xs.length ≤ 1048576) (ls : sv.length ≤ 1048576) (hw : WrV xs sv off) :
    Calls Tryz.prog 71 #[.agg #[v], .int .i64 8, .agg #[.int .i64 m, vS, vT, .int .i64 off]] w fun e w' => e = .returned (.int .i64 0) ∧ Bel w w' := by
  obtain ⟨sa, cap, rfl, hx⟩ := h
  have h : SV w (.slice sa ss.length cap) ss := ⟨sa, cap, rfl, hx⟩
  obtain ⟨s1, d1, rfl, hS'⟩ := hS
  obtain ⟨s2, d2, rfl, hT'⟩ := hT
  have hS : Ints w (.slice s1 xs.length d1) xs := ⟨s1, d1, rfl, hS'⟩
  have hT : Ints w (.slice s2 sv.length d2) sv := ⟨s2, d2, rfl, hT'⟩
  have x0 : Ext w ((w.alloc (.cells #[.slice sa ss.length cap] 34)).alloc (.cells #[.int .i64 m, .slice s1 xs.length d1, .slice s2 sv.length d2, .int .i64 off] 41)) := ((Ext.refl w).alloc _ _).alloc _ _
  have xa : Ext (w.alloc (.cells #[.slice sa ss.length cap] 34)) ((w.alloc (.cells #[.slice sa ss.length cap] 34)).alloc (.cells #[.int .i64 m, .slice s1 xs.length d1, .slice s2 sv.length d2, .int .i64 off] 41)) := (Ext.refl _).alloc _ _
  have k0 := xa.box (new_cell w #[.slice sa ss.length cap] 34 w.heap.size rfl 0)
  have n1 := fun j => new_cell (w.alloc (.cells #[.slice sa ss.length cap] 34)) #[.int .i64 m, .slice s1 xs.length d1, .slice s2 sv.length d2, .int .i64 off] 41 (w.heap.size + 1) (by simp) j
  have a0 := n1 0
  have a1 := n1 1
  have a2 := n1 2
  have a3 := n1 3
  simp only [List.getElem?_toArray, List.getElem?_cons_zero, List.getElem?_cons_succ] at k0 a0 a1 a2 a3
  have HWR := hide (sWR_any (hS.ext x0) (hT.ext x0) off lx ls)
  rw [dcWrV_t hw] at HWR
  clear hw
  have X0 := hide x0
  have HH := hide h
  have hcc : castL 8 8 1 = true := by decide
  clear n1 xa x0 hx hS hT hS' hT' h
  go_enter Tryz.func71, Tryz.ntmps71
  go_wp2_with fail
  generalize ((w.alloc (.cells #[.slice sa ss.length cap] 34)).alloc (.cells #[.int .i64 m, .slice s1 xs.length d1, .slice s2 sv.length d2, .int .i64 off] 41)) = W0 at *
  refine HWR.out.mono ?_
  rintro e w1 ⟨rfl, b1⟩
  have k0 := Bel.box b1 k0
  have a0 := Bel.box b1 a0
  have a1 := Bel.box b1 a1
  have a2 := Bel.box b1 a2
  have a3 := Bel.box b1 a3
  have B1 := hide (Bel.tr X0.out.bl b1)
  have HTY := hide (l4Type_any (vS := .slice s1 xs.length d1) (vT := .slice s2 sv.length d2) (HH.out.keep B1.out) (m : Int) off (Int.natCast_nonneg _) (by omega))
  rw [Int.toNat_natCast, h8] at HTY
  clear b1 HWR h8
  go_wp2_with fail
  refine HTY.out.mono ?_
  rintro e w2 ⟨rfl, x2⟩
  go_wp2_with (go_at_call 108; refine (sCanCast_any _ _ _ _).mono ?_; rintro e w' ⟨rfl, rfl⟩; rw [hcc])
  go_ret
  exact ⟨rfl, Bel.tr B1.out x2.bl⟩

theorem HSp.keep {w w' : World} {lo g : Nat} {cb : Nat → Nat} {ss : List St} (h : HSp w lo g cb ss) (hb : ∀ b, lo ≤ b → b < w.heap.size → w'.heap[b]? = w.heap[b]?) : HSp w' lo g cb ss := by
  have hlg := h.lo_g
  have hc : ∀ {b o x}, lo ≤ b → w.cell? ⟨b, o, none⟩ = some x → w'.cell? ⟨b, o, none⟩ = some x := fun {b o x} hl hx => (World.cell?_of_block (w := w) (a := ⟨b, o, none⟩) (hb b hl (cell_lt hx))).trans hx
  refine ⟨fun j hj => hc h.lo_g (h.dt j hj), fun j hj => ?_, fun j hj hne => ?_, fun j hj hne o => ?_, h.lo_g, h.ne, h.nd⟩
  · obtain ⟨sa, cap, h1, h2⟩ := h.sl j hj
    exact ⟨sa, cap, hc h.lo_g h1, h2⟩
  · have hl := (h.ne j hj hne).2
    have hr := h.row j hj hne
    exact fun i hi => ⟨hc hl (hr i hi).1, hc hl (hr i hi).2.1, hc hl (hr i hi).2.2⟩
  · have hl := (h.ne j hj hne).2
    have hlt := cell_lt (h.row j hj hne 0 (List.length_pos_iff.2 hne)).1
    exact (World.frozen?_of_block (w := w) (a := ⟨cb j, o, none⟩) (hb _ hl hlt)).trans (h.fzr j hj hne o)
theorem HSp.lower {w : World} {lo lo' g : Nat} {cb : Nat → Nat} {ss : List St} (h : HSp w lo g cb ss) (hl : lo' ≤ lo) : HSp w lo' g cb ss := ⟨h.dt, h.sl, h.row, h.fzr, Nat.le_trans hl h.lo_g, fun j hj hne => ⟨(h.ne j hj hne).1, Nat.le_trans hl (h.ne j hj hne).2⟩, h.nd⟩
theorem HSp.put {w w1 : World} {lo g m p x j : Nat} {cb : Nat → Nat} {ss : List St} {L : List Int} {X : List Nat} (h : HSp w lo g cb (putS ss m L X j)) (hm : m < ss.length) (hp : p < (ss.getD m s0).2.length) (hL : L.getD j 0 = (p : Int)) (x1 : Ext w w1) (hx : x = X.getD j 0) :
    HSp (set3 w1 (cb m) (p * 3) x) lo g cb (putS ss m L X (j + 1)) := by
  have h1 : HSp w1 lo g cb (putS ss m L X j) := h.keep (fun b _ hb => x1.bl.block b hb)
  clear h x1
  have hmm : (putS ss m L X j).getD m s0 = ((ss.getD m s0).1, putN (ss.getD m s0).2 L X j) := by unfold putS; rw [st_set, if_pos ⟨rfl, hm⟩]
  have hmn : (putS ss m L X (j + 1)).getD m s0 = ((ss.getD m s0).1, (putN (ss.getD m s0).2 L X j).set p (0, x, 0)) := by
    unfold putS
    rw [st_set, if_pos ⟨rfl, hm⟩, putN, hL, hx, Int.toNat_natCast]
  have hnm : ∀ i, i ≠ m → (putS ss m L X (j + 1)).getD i s0 = (putS ss m L X j).getD i s0 := fun i hi => ((putS_at ss m _ X (j + 1) i).2.2 hi).trans ((putS_at ss m L X j i).2.2 hi).symm
  have hnil : ∀ i, ((putS ss m L X (j + 1)).getD i s0).2 ≠ [] ↔ ((putS ss m L X j).getD i s0).2 ≠ [] := fun i => by
    rw [ne_eq, ne_eq, nil_len, nil_len, (putS_at ss m _ X (j + 1) i).2.1, (putS_at ss m L X j i).2.1]
  have hlen : ∀ i, ((putS ss m L X (j + 1)).getD i s0).2.length = ((putS ss m L X j).getD i s0).2.length := fun i => by rw [(putS_at ss m _ X (j + 1) i).2.1, (putS_at ss m L X j i).2.1]
  have hnem : ((putS ss m L X j).getD m s0).2 ≠ [] := fun e => by rw [nil_len, (putS_at ss m L X j m).2.1] at e; omega
  have hml : m < (putS ss m L X j).length := by rw [putS_len]; exact hm
  have hgm := h1.ne m hml hnem
  have hcb : ∀ i, i < ss.length → ((putS ss m L X j).getD i s0).2 ≠ [] → i ≠ m → cb i ≠ cb m := fun i hi hi2 him e => by
    rcases Nat.lt_or_gt_of_ne him with q | q
    · exact h1.nd i m q hml hi2 hnem e
    · exact h1.nd m i q (by rw [putS_len]; exact hi) hnem hi2 e.symm
  refine ⟨fun i hi => ?_, fun i hi => ?_, fun i hi hne2 => ?_, fun i hi hne2 o => ?_, h1.lo_g, fun i hi hne2 => ?_, fun i i' hii hi' hn1 hn2 => ?_⟩
  · rw [putS_len] at hi
    rw [(putS_at ss m _ X (j + 1) i).1, ← (putS_at ss m L X j i).1]
    exact set3_box (Ne.symm hgm.1) (h1.dt i (by rw [putS_len]; exact hi))
  · rw [putS_len] at hi
    obtain ⟨sa, cap, q1, q2⟩ := h1.sl i (by rw [putS_len]; exact hi)
    refine ⟨sa, cap, ?_, ?_⟩
    · rw [hlen]; exact set3_box (Ne.symm hgm.1) q1
    · rcases q2 with q2 | q2
      · exact Or.inl (by rw [nil_len, hlen]; rw [nil_len] at q2; exact q2)
      · exact Or.inr q2
  · rw [putS_len] at hi
    rw [hnil] at hne2
    have hr := h1.row i (by rw [putS_len]; exact hi) hne2
    by_cases e : i = m
    · subst e
      rw [hmn]
      rw [hmm] at hr
      have q := hr.set p (by rw [putN_len]; exact hp) (0, x, 0)
      simp only [Nat.zero_add] at q
      exact q
    · rw [hnm i e]
      have hc := hcb i hi hne2 e
      exact fun z hz => ⟨set3_box hc (hr z hz).1, set3_box hc (hr z hz).2.1, set3_box hc (hr z hz).2.2⟩
  · rw [putS_len] at hi
    rw [hnil] at hne2
    rw [set3_fz]
    exact h1.fzr i (by rw [putS_len]; exact hi) hne2 o
  · rw [putS_len] at hi
    rw [hnil] at hne2
    exact h1.ne i (by rw [putS_len]; exact hi) hne2
  · rw [putS_len] at hi'
    rw [hnil] at hn1 hn2
    exact h1.nd i i' hii (by rw [putS_len]; exact hi') hn1 hn2

set_option maxRecDepth 100000 in
set_option maxHeartbeats 4000000 in
theorem l4Write_any {w : World} {v vS vT : Value} {ss : List St} {xs sv : List Int} {sx : Option Addr} {cx : Nat} {X : List Nat} (h : SV w v ss) (hl : SL ss 1048576) (m : Nat) (off : Int) (hm : m < ss.length) (h8 : (ss.getD m s0).1 = 8) (hS : Ints w vS xs) (hT : Ints w vT sv) (lx : xs.length ≤ 1048576) (ls : sv.length ≤ 1048576) (hw : WrV xs sv off)
    (hin : ∀ p ∈ offsL xs sv off, p < ((ss.getD m s0).2.length : Int)) (hX : CV w (.slice sx X.length cx) (fcells X)) (hXb : ∀ j, B64 (X.getD j 0)) (hXl : (offsL xs sv off).length ≤ X.length) (hX4 : X.length ≤ 4096) :
    Calls Tryz.prog 31 #[.agg #[v], .int .i64 8, .slice sx X.length cx, .agg #[.int .i64 m, vS, vT, .int .i64 off]] w fun e w' => ∃ g cap cb, e = .returned (.agg #[.int .i64 0, .slice (some ⟨g, 0, none⟩) ss.length cap]) ∧ HSp w' w.heap.size g cb (putS ss m (offsL xs sv off) X (offsL xs sv off).length) ∧ Bel w w' := by
  obtain ⟨sa, cap, rfl, hx⟩ := h
  have h : SV w (.slice sa ss.length cap) ss := ⟨sa, cap, rfl, hx⟩
  obtain ⟨s1, d1, rfl, hS'⟩ := hS
  obtain ⟨s2, d2, rfl, hT'⟩ := hT
  have hS : Ints w (.slice s1 xs.length d1) xs := ⟨s1, d1, rfl, hS'⟩
  have hT : Ints w (.slice s2 sv.length d2) sv := ⟨s2, d2, rfl, hT'⟩
  have x0 : Ext w (((w.alloc (.cells #[.slice sa ss.length cap] 34)).alloc (.cells #[.int .i64 m, .slice s1 xs.length d1, .slice s2 sv.length d2, .int .i64 off] 41)).alloc (.cells #[.int .i64 0, .slice none 0 0] 36)) := (((Ext.refl w).alloc _ _).alloc _ _).alloc _ _
  have xa : Ext (w.alloc (.cells #[.slice sa ss.length cap] 34)) (((w.alloc (.cells #[.slice sa ss.length cap] 34)).alloc (.cells #[.int .i64 m, .slice s1 xs.length d1, .slice s2 sv.length d2, .int .i64 off] 41)).alloc (.cells #[.int .i64 0, .slice none 0 0] 36)) := ((Ext.refl _).alloc _ _).alloc _ _
  have xb : Ext ((w.alloc (.cells #[.slice sa ss.length cap] 34)).alloc (.cells #[.int .i64 m, .slice s1 xs.length d1, .slice s2 sv.length d2, .int .i64 off] 41)) (((w.alloc (.cells #[.slice sa ss.length cap] 34)).alloc (.cells #[.int .i64 m, .slice s1 xs.length d1, .slice s2 sv.length d2, .int .i64 off] 41)).alloc (.cells #[.int .i64 0, .slice none 0 0] 36)) := (Ext.refl _).alloc _ _
  have k0 := xa.box (new_cell w #[.slice sa ss.length cap] 34 w.heap.size rfl 0)
  have n1 := fun j => new_cell (w.alloc (.cells #[.slice sa ss.length cap] 34)) #[.int .i64 m, .slice s1 xs.length d1, .slice s2 sv.length d2, .int .i64 off] 41 (w.heap.size + 1) (by simp) j
  have a0 := xb.box (n1 0)
  have a1 := xb.box (n1 1)
  have a2 := xb.box (n1 2)
  have a3 := xb.box (n1 3)
  have n2 := fun j => new_cell ((w.alloc (.cells #[.slice sa ss.length cap] 34)).alloc (.cells #[.int .i64 m, .slice s1 xs.length d1, .slice s2 sv.length d2, .int .i64 off] 41)) #[.int .i64 0, .slice none 0 0] 36 (w.heap.size + 2) (by simp) j
  have r0 := n2 0
  have r1 := n2 1
  simp only [List.getElem?_toArray, List.getElem?_cons_zero, List.getElem?_cons_succ] at k0 a0 a1 a2 a3 r0 r1
  have hs3 : ((((w.alloc (.cells #[.slice sa ss.length cap] 34)).alloc (.cells #[.int .i64 m, .slice s1 xs.length d1, .slice s2 sv.length d2, .int .i64 off] 41)).alloc (.cells #[.int .i64 0, .slice none 0 0] 36))).heap.size = w.heap.size + 3 := by simp
  have HLA := hide (l4Last_any (h.keep x0.bl) m off hm h8 (hS.ext x0) (hT.ext x0) lx ls hw)
  have HCP := hide (fun W (b : Bel w W) => l4Copy_any (h.keep b) hl (by omega))
  have HOF := hide (fun W (b : Bel w W) => l2Offsets_any (ints_bel hS b) (ints_bel hT b) off hw.1)
  have HTY := hide (fun W (b : Bel w W) => l4Type_any (vS := .slice s1 xs.length d1) (vT := .slice s2 sv.length d2) (h.keep b) (m : Int) off (Int.natCast_nonneg _) (by omega))
  have hpos : Hid (∀ p ∈ offsL xs sv off, 0 ≤ p) := fun p hp => (offs_in hw.1 p hp).1
  rw [Int.toNat_natCast, h8] at HTY
  have FR : Hid (∀ o, ((((w.alloc (.cells #[.slice sa ss.length cap] 34)).alloc (.cells #[.int .i64 m, .slice s1 xs.length d1, .slice s2 sv.length d2, .int .i64 off] 41)).alloc (.cells #[.int .i64 0, .slice none 0 0] 36))).frozen? ⟨w.heap.size + 2, o, none⟩ = false) := fun o => x0.unfrozen (by omega) o
  have X0 := hide x0.bl
  have HX := hide hX
  have Hin := hide hin
  have hol := offs_len hw.1
  have k0H := hide k0
  have a0H := hide a0
  have a1H := hide a1
  have a2H := hide a2
  have a3H := hide a3
  have r0H := hide r0
  have r1H := hide r1
  clear n1 n2 xa xb x0 hx hS hT hS' hT' h hX hw h8 hin hl
  generalize offsL xs sv off = L at *
  go_enter Tryz.func31, Tryz.ntmps31
  go_wp2_with fail
  generalize (((w.alloc (.cells #[.slice sa ss.length cap] 34)).alloc (.cells #[.int .i64 m, .slice s1 xs.length d1, .slice s2 sv.length d2, .int .i64 off] 41)).alloc (.cells #[.int .i64 0, .slice none 0 0] 36)) = W0 at *
  refine HLA.out.mono ?_
  rintro e w1 ⟨rfl, b1⟩
  have k0 := Bel.box b1 k0
  have a0 := Bel.box b1 a0
  have a1 := Bel.box b1 a1
  have a2 := Bel.box b1 a2
  have a3 := Bel.box b1 a3
  have B1 := hide (Bel.tr X0.out b1)
  have B01 := hide b1
  clear b1 HLA
  go_wp2_with fail
  refine (HCP.out _ B1.out).mono ?_
  rintro e w2 ⟨g, cg, cb, rfl, hO, b2⟩
  have B2 := hide (Bel.tr B01.out b2)
  have x3 : Ext w2 (w2.alloc (.cells #[.slice (some ⟨g, 0, none⟩) ss.length cg] 34)) := (Ext.refl _).alloc _ _
  have B3 := hide (Bel.tr B2.out x3.bl)
  have N3 := hide (new_cell w2 #[.slice (some ⟨g, 0, none⟩) ss.length cg] 34 w2.heap.size rfl 0)
  have HO3 := hide (hO.keep (fun b _ hb => x3.bl.block b hb))
  have a0 := Bel.box B3.out a0H.out
  have a1 := Bel.box B3.out a1H.out
  have a2 := Bel.box B3.out a2H.out
  have a3 := Bel.box B3.out a3H.out
  have hlo := hO.lo_g
  have hw01 := B01.out.size
  have hw12 := b2.size
  have hb12 := hide b2
  have hcbw : Hid ((ss.getD m s0).2 ≠ [] → cb m < w2.heap.size) := fun hne => cell_lt (hO.row m hm hne 0 (List.length_pos_iff.2 hne)).1
  have hb13 : Hid (Bel w1 (w2.alloc (.cells #[.slice (some ⟨g, 0, none⟩) ss.length cg] 34))) := Bel.tr b2 x3.bl
  have x3' := hide x3
  clear hO b2 x3 HCP k0
  go_wp2_with fail
  have B4w := hide (Bel.tr B1.out (show Bel w1 _ from Below.trans (show Bel w1 w2 from hb12.out) (x3'.out.bl.mono hb12.out.size)))
  refine (HOF.out _ B4w.out).mono ?_
  rintro e w4 ⟨sl, cl, rfl, hOwn, b4⟩
  have hW4 : Bel w1 w4 := Below.trans hb13.out (Below.mono b4 hb13.out.size)
  have HW4 := hide hW4
  have N4 := hide (Bel.box b4 N3.out)
  have HO4 := hide (HO3.out.keep (fun b _ hb => b4.block b hb))
  have HOwn := hide hOwn
  have hs34 : w2.heap.size + 1 ≤ w4.heap.size := by have := b4.size; rw [World.size_alloc] at this; exact this
  have HSZ : Hid ((w2.alloc (.cells #[.slice (some ⟨g, 0, none⟩) ss.length cg] 34)).heap.size = w2.heap.size + 1) := by show _ = _; simp
  rw [HSZ.out] at HOwn
  clear hOwn b4 hW4 a0 a1 a2 a3 HO3 N3 hb13 hb12 x3' B4w
  go_wp2_with fail
  go_loopw [12] (fun i wr => ∃ k : Nat, i = .int .i64 k ∧ k ≤ L.length ∧ HSp wr w1.heap.size g cb (putS ss m L X k) ∧ Bel w1 wr ∧ (∀ c o x, ((ss.getD m s0).2 ≠ [] → c ≠ cb m) → w4.cell? ⟨c, o, none⟩ = some x → wr.cell? ⟨c, o, none⟩ = some x)) (fun i _ => L.length - (intOf i).toNat)
  case atStart => exact ⟨0, rfl, by omega, by
    have e : putS ss m L X 0 = ss := by
      unfold putS
      show ss.set m ((ss.getD m s0).1, (ss.getD m s0).2) = ss
      rw [List.getD_eq_getElem?_getD, List.getElem?_eq_getElem hm]
      exact List.set_getElem_self hm
    rw [e]; exact HO4.out, HW4.out, fun _ _ _ _ h => h⟩
  case round =>
    obtain ⟨k, rfl, hk, hP, hB, hKc⟩ := hrel
    have HP := hide hP
    have HB := hide hB
    have HKc := hide hKc
    clear hP hB hKc
    by_cases hkn : k < L.length
    · obtain ⟨gl, rfl, hgl, hrow, _⟩ := HOwn.out.resolve_left (fun e => by rw [e] at hkn; simp at hkn)
      have hmem : L.getD k 0 ∈ L := by rw [List.getD_eq_getElem?_getD, List.getElem?_eq_getElem hkn]; exact List.getElem_mem _
      have hp0 := hpos.out _ hmem
      have hp1 := Hin.out _ hmem
      have rL := hrow k hkn
      rw [Nat.zero_add] at rL
      obtain ⟨p, hp⟩ : ∃ p : Nat, L.getD k 0 = (p : Int) := ⟨(L.getD k 0).toNat, by omega⟩
      have Hp := hide hp
      rw [hp] at rL hp1 hp0
      have hpc : p < (ss.getD m s0).2.length := by omega
      have hne : (ss.getD m s0).2 ≠ [] := fun e => by rw [e] at hpc; simp at hpc
      have hcm := hcbw.out hne
      have hml : m < (putS ss m L X k).length := by rw [putS_len]; exact hm
      have hnem : ((putS ss m L X k).getD m s0).2 ≠ [] := fun e => by rw [nil_len, (putS_at ss m L X k m).2.1] at e; omega
      have hgm := HP.out.ne m hml hnem
      obtain ⟨sq, cp, q1, q2⟩ := HP.out.sl m hml
      obtain rfl := q2.resolve_left hnem
      rw [(putS_at ss m L X k m).2.1] at q1
      obtain ⟨y0, y1, y2⟩ := HP.out.row m hml hnem p (by rw [(putS_at ss m L X k m).2.1]; exact hpc)
      rw [Nat.zero_add] at y0 y1 y2
      have hfr := HP.out.fzr m hml hnem
      have hkX : k < X.length := by omega
      obtain ⟨sx', cx', ex, hxr⟩ := HX.out
      injection ex with ex1 ex2 ex3
      subst ex1 ex3
      clear ex2
      obtain ⟨bx, ox, rfl, hxc⟩ := hxr.resolve_left (fun e => by have : X.length = 0 := by rw [← fcells_len, e]; rfl
                                                                 omega)
      obtain ⟨t0, t1, t2⟩ := hxc k (by rw [fcells_len]; exact hkX)
      rw [fcells_at X _ hkX] at t0 t1 t2
      have hbx := cell_lt t0
      have Bww := Bel.tr B1.out HB.out
      have hxb := hXb k
      have t0 := Bel.box Bww t0
      have t1 := Bel.box Bww t1
      have t2 := Bel.box Bww t2
      generalize hxv : X.getD k 0 = xv at t1 hxb
      have Hxv := hide hxv
      generalize hcs : (ss.getD m s0).2 = cs at q1 hpc
      have Hcs := hide hcs
      have B0r := Bel.tr B01.out HB.out
      have SA : Hid ((fun w' : World => w'.cell? ⟨w2.heap.size, 0, none⟩ = some (.slice (some ⟨g, 0, none⟩) ss.length cg) ∧ w'.cell? ⟨w.heap.size, 0, none⟩ = some (.slice sa ss.length cap) ∧ w'.cell? ⟨w.heap.size + 1, 0, none⟩ = some (.int .i64 m) ∧ w'.cell? ⟨w.heap.size + 1, 1, none⟩ = some (.slice s1 xs.length d1) ∧ w'.cell? ⟨w.heap.size + 1, 2, none⟩ = some (.slice s2 sv.length d2) ∧ w'.cell? ⟨w.heap.size + 1, 3, none⟩ = some (.int .i64 off) ∧ w'.cell? ⟨g, m * 2 + 1, none⟩ = some (.slice (some ⟨cb m, 0, none⟩) cs.length cp) ∧ w'.cell? ⟨gl, k, none⟩ = some (.int .i64 p) ∧ w'.cell? ⟨bx, ox + k * 3, none⟩ = some (.int .i64 0) ∧ w'.cell? ⟨bx, ox + k * 3 + 1, none⟩ = some (.float .f64 xv) ∧ w'.cell? ⟨bx, ox + k * 3 + 2, none⟩ = some (.float .f64 0)) wr.drew) := ⟨HKc.out _ _ _ (fun _ => by omega) N4.out, Bel.box B0r k0H.out, Bel.box B0r a0H.out, Bel.box B0r a1H.out, Bel.box B0r a2H.out, Bel.box B0r a3H.out, q1, HKc.out _ _ _ (fun _ => by omega) rL, t0, t1, t2⟩
      have hk0' : (0 : Int) ≤ (k : Int) := Int.natCast_nonneg _
      have hk1 : (k : Int) < (L.length : Int) := by omega
      have hk2 : (k : Int) < (X.length : Int) := by omega
      have hp2 : (0 : Int) ≤ (p : Int) := Int.natCast_nonneg _
      have hp3 : (p : Int) < (cs.length : Int) := by omega
      have hm0 : (0 : Int) ≤ (m : Int) := Int.natCast_nonneg _
      have hm1 : (m : Int) < (ss.length : Int) := by omega
      have HTY2 := hide (HTY.out wr.drew (Bel.tr Bww (show Bel wr wr.drew from (Below.refl _ _).drew)))
      have HBww := hide Bww
      have hwb : w.heap.size + 3 ≤ w1.heap.size := by omega
      have hd : decide ((k : Int) < (L.length : Int)) = true := decide_eq_true (by omega)
      clear hrow rL hxr hxc t0 t1 t2 q1 hxv hcs hp hp0 hp1 hmem Bww B0r
      go_wp2_with fail
      go_region_held3 (fun w' : World => w'.cell? ⟨w2.heap.size, 0, none⟩ = some (.slice (some ⟨g, 0, none⟩) ss.length cg) ∧ w'.cell? ⟨w.heap.size, 0, none⟩ = some (.slice sa ss.length cap) ∧ w'.cell? ⟨w.heap.size + 1, 0, none⟩ = some (.int .i64 m) ∧ w'.cell? ⟨w.heap.size + 1, 1, none⟩ = some (.slice s1 xs.length d1) ∧ w'.cell? ⟨w.heap.size + 1, 2, none⟩ = some (.slice s2 sv.length d2) ∧ w'.cell? ⟨w.heap.size + 1, 3, none⟩ = some (.int .i64 off) ∧ w'.cell? ⟨g, m * 2 + 1, none⟩ = some (.slice (some ⟨cb m, 0, none⟩) cs.length cp) ∧ w'.cell? ⟨gl, k, none⟩ = some (.int .i64 p) ∧ w'.cell? ⟨bx, ox + k * 3, none⟩ = some (.int .i64 0) ∧ w'.cell? ⟨bx, ox + k * 3 + 1, none⟩ = some (.float .f64 xv) ∧ w'.cell? ⟨bx, ox + k * 3 + 2, none⟩ = some (.float .f64 0)) (first | with_reducible exact SA.out | exact SA.out | exact SB.out | exact SC.out | exact SD.out) (first | (go_at_call 26; refine HTY2.out.mono ?_; rintro e w5 ⟨rfl, x5⟩; have SB : Hid ((fun w' : World => w'.cell? ⟨w2.heap.size, 0, none⟩ = some (.slice (some ⟨g, 0, none⟩) ss.length cg) ∧ w'.cell? ⟨w.heap.size, 0, none⟩ = some (.slice sa ss.length cap) ∧ w'.cell? ⟨w.heap.size + 1, 0, none⟩ = some (.int .i64 m) ∧ w'.cell? ⟨w.heap.size + 1, 1, none⟩ = some (.slice s1 xs.length d1) ∧ w'.cell? ⟨w.heap.size + 1, 2, none⟩ = some (.slice s2 sv.length d2) ∧ w'.cell? ⟨w.heap.size + 1, 3, none⟩ = some (.int .i64 off) ∧ w'.cell? ⟨g, m * 2 + 1, none⟩ = some (.slice (some ⟨cb m, 0, none⟩) cs.length cp) ∧ w'.cell? ⟨gl, k, none⟩ = some (.int .i64 p) ∧ w'.cell? ⟨bx, ox + k * 3, none⟩ = some (.int .i64 0) ∧ w'.cell? ⟨bx, ox + k * 3 + 1, none⟩ = some (.float .f64 xv) ∧ w'.cell? ⟨bx, ox + k * 3 + 2, none⟩ = some (.float .f64 0)) w5) := ⟨x5.box (SA.out.1), x5.box (SA.out.2.1), x5.box (SA.out.2.2.1), x5.box (SA.out.2.2.2.1), x5.box (SA.out.2.2.2.2.1), x5.box (SA.out.2.2.2.2.2.1), x5.box (SA.out.2.2.2.2.2.2.1), x5.box (SA.out.2.2.2.2.2.2.2.1), x5.box (SA.out.2.2.2.2.2.2.2.2.1), x5.box (SA.out.2.2.2.2.2.2.2.2.2.1), x5.box (SA.out.2.2.2.2.2.2.2.2.2.2)⟩; have X5 := hide x5; clear x5) | (go_at_call 73; refine (sConv8_any xv hxb _).mono ?_; rintro e w6 ⟨rfl, x6⟩; have SC : Hid ((fun w' : World => w'.cell? ⟨w2.heap.size, 0, none⟩ = some (.slice (some ⟨g, 0, none⟩) ss.length cg) ∧ w'.cell? ⟨w.heap.size, 0, none⟩ = some (.slice sa ss.length cap) ∧ w'.cell? ⟨w.heap.size + 1, 0, none⟩ = some (.int .i64 m) ∧ w'.cell? ⟨w.heap.size + 1, 1, none⟩ = some (.slice s1 xs.length d1) ∧ w'.cell? ⟨w.heap.size + 1, 2, none⟩ = some (.slice s2 sv.length d2) ∧ w'.cell? ⟨w.heap.size + 1, 3, none⟩ = some (.int .i64 off) ∧ w'.cell? ⟨g, m * 2 + 1, none⟩ = some (.slice (some ⟨cb m, 0, none⟩) cs.length cp) ∧ w'.cell? ⟨gl, k, none⟩ = some (.int .i64 p) ∧ w'.cell? ⟨bx, ox + k * 3, none⟩ = some (.int .i64 0) ∧ w'.cell? ⟨bx, ox + k * 3 + 1, none⟩ = some (.float .f64 xv) ∧ w'.cell? ⟨bx, ox + k * 3 + 2, none⟩ = some (.float .f64 0)) w6) := ⟨x6.box (SB.out.1), x6.box (SB.out.2.1), x6.box (SB.out.2.2.1), x6.box (SB.out.2.2.2.1), x6.box (SB.out.2.2.2.2.1), x6.box (SB.out.2.2.2.2.2.1), x6.box (SB.out.2.2.2.2.2.2.1), x6.box (SB.out.2.2.2.2.2.2.2.1), x6.box (SB.out.2.2.2.2.2.2.2.2.1), x6.box (SB.out.2.2.2.2.2.2.2.2.2.1), x6.box (SB.out.2.2.2.2.2.2.2.2.2.2)⟩; have xx := ((Ext.refl wr).drew.trans X5.out).trans x6; have X6 := hide xx; have SD : Hid ((fun w' : World => w'.cell? ⟨w2.heap.size, 0, none⟩ = some (.slice (some ⟨g, 0, none⟩) ss.length cg) ∧ w'.cell? ⟨w.heap.size, 0, none⟩ = some (.slice sa ss.length cap) ∧ w'.cell? ⟨w.heap.size + 1, 0, none⟩ = some (.int .i64 m) ∧ w'.cell? ⟨w.heap.size + 1, 1, none⟩ = some (.slice s1 xs.length d1) ∧ w'.cell? ⟨w.heap.size + 1, 2, none⟩ = some (.slice s2 sv.length d2) ∧ w'.cell? ⟨w.heap.size + 1, 3, none⟩ = some (.int .i64 off) ∧ w'.cell? ⟨g, m * 2 + 1, none⟩ = some (.slice (some ⟨cb m, 0, none⟩) cs.length cp) ∧ w'.cell? ⟨gl, k, none⟩ = some (.int .i64 p) ∧ w'.cell? ⟨bx, ox + k * 3, none⟩ = some (.int .i64 0) ∧ w'.cell? ⟨bx, ox + k * 3 + 1, none⟩ = some (.float .f64 xv) ∧ w'.cell? ⟨bx, ox + k * 3 + 2, none⟩ = some (.float .f64 0)) (set3 w6 (cb m) (p * 3) xv)) := ⟨set3_box (by omega) (SC.out.1), set3_box (by omega) (SC.out.2.1), set3_box (by omega) (SC.out.2.2.1), set3_box (by omega) (SC.out.2.2.2.1), set3_box (by omega) (SC.out.2.2.2.2.1), set3_box (by omega) (SC.out.2.2.2.2.2.1), set3_box (by omega) (SC.out.2.2.2.2.2.2.1), set3_box (by omega) (SC.out.2.2.2.2.2.2.2.1), set3_box (by omega) (SC.out.2.2.2.2.2.2.2.2.1), set3_box (by omega) (SC.out.2.2.2.2.2.2.2.2.2.1), set3_box (by omega) (SC.out.2.2.2.2.2.2.2.2.2.2)⟩; have z0 := xx.box y0; have z1 := xx.box y1; have z2 := xx.box y2; have fz := fun q => (xx.fz _).trans (hfr q); have g0 := fz (p * 3); have g1 := fz (p * 3 + 1); have g2 := fz (p * 3 + 2); clear x6 xx fz))
      have HPN := hide (HP.out.put hm (by rw [Hcs.out]; exact hpc) Hp.out X6.out Hxv.out.symm)
      have HBN : Hid (Bel w1 (set3 w6 (cb m) (p * 3) xv)) := set3_below (Bel.tr HB.out X6.out.bl) hgm.2 _ _
      have HKN : Hid (∀ c o x, ((ss.getD m s0).2 ≠ [] → c ≠ cb m) → w4.cell? ⟨c, o, none⟩ = some x → (set3 w6 (cb m) (p * 3) xv).cell? ⟨c, o, none⟩ = some x) := fun c o x hc hx => set3_box (hc hne) (X6.out.box (HKc.out c o x hc hx))
      unfold set3 at HPN HBN HKN
      clear SA SB SC SD
      go_wp2_with fail
      go_roundw
      · exact ⟨k + 1, by go_num, by omega, HPN.out, HBN.out, fun c o x hc hx => HKN.out c o x (fun h => hc (by rw [← Hcs.out]; exact h)) hx⟩
      · simp [intOf]; omega
    · have hkk : k = L.length := by omega
      subst hkk
      have c3 := HKc.out _ _ _ (fun hne => by have := hcbw.out hne; omega) N4.out
      have B0r := Bel.tr B01.out HB.out
      have r0 := Bel.box B0r r0H.out
      have r1 := Bel.box B0r r1H.out
      have f0 := (Below.frozen B0r (p := ⟨w.heap.size + 2, 0, none⟩) (cell_lt r0H.out)).trans (FR.out 0)
      have f1 := (Below.frozen B0r (p := ⟨w.heap.size + 2, 1, none⟩) (cell_lt r0H.out)).trans (FR.out 1)
      have hd : decide (((L.length : Nat) : Int) < (L.length : Int)) = false := decide_eq_false (by omega)
      have HBF := hide (Bel.tr X0.out B0r)
      clear B0r
      go_wp2
      refine bodyPost_ret (v := .agg #[.int .i64 0, .slice (some ⟨g, 0, none⟩) ss.length cg]) (by simp [results, Tryz.results31, go_sem, r0, r1]) rfl ⟨g, cg, cb, rfl, ?_, ?_⟩
      · refine HSp.lower (HP.out.keep (fun b hb _ => ?_)) (by omega)
        first
          | exact (Below.heap_setCell _ _ _ _ (by show b ≠ w.heap.size + 1 + 1; omega)).trans (Below.heap_setCell _ _ _ _ (by show b ≠ w.heap.size + 1 + 1; omega))
          | exact (Below.heap_setCell _ _ _ _ (by show b ≠ w.heap.size + 1 + 1; omega))
      · have hp : ∀ q, w.heap.size ≤ (⟨w.heap.size + 1 + 1, q, none⟩ : Addr).block := fun q => by show _ ≤ w.heap.size + 1 + 1; omega
        first
          | exact (HBF.out.setCell (hp 0) _).setCell (hp 1) _
          | exact HBF.out.setCell (hp 1) _
end Go.Proofs.YtfhcpicddegblaaGreat
