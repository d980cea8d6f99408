import Derived.Test.YtfhcpicddegblaaGreatM5
import Derived.Test.YtfhcpicddegblaaGreatFsFirst
namespace Go.Proofs.YtfhcpicddegblaaGreat
open Go.ChangeShapes Go.RowKit FL
set_option linter.unusedSimpArgs false
set_option linter.unusedVariables false
/-- An array, opened. -/
def Ar.open (U : Nat → Value) (ss : List St) (a : Ar) : List Value := openC a.xs a.sv a.off a.st (ss.getD a.st.toNat s0).1 (U a.st.toNat)
theorem Ar.open_len (U : Nat → Value) (ss : List St) (a : Ar) : (a.open U ss).length = 13 := rfl
/-- The opened arrays, one behind the other. -/
def openF (U : Nat → Value) (ss : List St) : List Ar → List Value
  | [] => []
  | a :: al => a.open U ss ++ openF U ss al
theorem openF_app (U : Nat → Value) (ss : List St) (al bl : List Ar) : openF U ss (al ++ bl) = openF U ss al ++ openF U ss bl := by
  induction al with
  | nil => rfl
  | cons a al ih => rw [List.cons_append, openF, openF, ih, List.append_assoc]
theorem openF_len (U : Nat → Value) (ss : List St) (al : List Ar) : (openF U ss al).length = al.length * 13 := by
  induction al with
  | nil => rfl
  | cons a al ih => rw [openF, List.length_append, ih, Ar.open_len, List.length_cons]; omega
theorem openF_get (U : Nat → Value) (ss : List St) (al : List Ar) : ∀ j i, j < al.length → i < 13 → (openF U ss al)[j * 13 + i]? = ((al.getD j a0A).open U ss)[i]? := by
  induction al with
  | nil => intro j i hj; simp at hj
  | cons a al ih =>
    intro j i hj hi
    match j with
    | 0 => rw [openF, List.getElem?_append_left (by rw [Ar.open_len]; omega), Nat.zero_mul, Nat.zero_add]; rfl
    | j + 1 =>
      rw [openF, List.getElem?_append_right (by rw [Ar.open_len]; omega), Ar.open_len, List.getD_cons_succ, ← ih j i (by simpa using hj) hi]
      congr 1; omega
theorem take_next (U : Nat → Value) (ss : List St) (al : List Ar) {k : Nat} (hk : k < al.length) : openF U ss (al.take (k + 1)) = openF U ss (al.take k) ++ (al.getD k a0A).open U ss := by
  rw [List.take_add_one, List.getElem?_eq_getElem hk, openF_app]
  congr 1
  rw [List.getD_eq_getElem?_getD, List.getElem?_eq_getElem hk]
  show openF U ss [al[k]] = _
  rw [openF, openF, List.append_nil]; rfl
/-- The stores' cells, by the number of the store. -/
theorem SV.stores {w : World} {v : Value} {ss : List St} (h : SV w v ss) : ∃ U : Nat → Value, (∀ j, j < ss.length → CV w (U j) (ss.getD j s0).2) ∧
    (ss = [] ∨ ∃ b off cap, v = .slice (some ⟨b, off, none⟩) ss.length cap ∧ ∀ j, j < ss.length → w.cell? ⟨b, off + j * 2, none⟩ = some (.int .i64 (ss.getD j s0).1) ∧ w.cell? ⟨b, off + j * 2 + 1, none⟩ = some (U j)) := by
  obtain ⟨sa, cap, rfl, h⟩ := h
  rcases h with rfl | ⟨b, off, rfl, h⟩
  · exact ⟨fun _ => .slice none 0 0, fun j hj => by simp at hj, Or.inl rfl⟩
  · refine ⟨fun j => if hj : j < ss.length then Classical.choose (h j hj).2 else .slice none 0 0, fun j hj => ?_, Or.inr ⟨b, off, cap, rfl, fun j hj => ?_⟩⟩
    · simp only [dif_pos hj]; exact (Classical.choose_spec (h j hj).2).2
    · simp only [dif_pos hj]; exact ⟨(h j hj).1, (Classical.choose_spec (h j hj).2).1⟩
def OpenNOk (w : World) (ss : List St) (al : List Ar) (e : Ending) (w' : World) : Prop :=
  ∃ v, e = .returned (.tuple #[v, .int .i64 (firstL ss al)]) ∧ Bel w w' ∧ (firstL ss al ≠ 0 ∨
    ∃ g cap U, v = .slice (some ⟨g, 0, none⟩) al.length cap ∧ w.heap.size ≤ g ∧ (∀ a ∈ al, a.Good ss) ∧ (∀ j, j < ss.length → CV w (U j) (ss.getD j s0).2) ∧ ∀ j i x, j < al.length → ((al.getD j a0A).open U ss)[i]? = some x → w'.cell? ⟨g, j * 13 + i, none⟩ = some x)

set_option maxRecDepth 100000 in
set_option maxHeartbeats 4000000 in
theorem openN_any {w : World} {v : Value} {ss : List St} {ga oa cp : Nat} {al : List Ar} (h : SV w v ss) (hg : SG ss) (hl : SL ss 1048576) (ha : ARow w ga oa al) (hal : ∀ a ∈ al, a.Len) (hn0 : 0 < al.length) (hn : al.length ≤ 1000) :
    Calls Tryz.prog 34 #[.agg #[v], .slice (some ⟨ga, oa, none⟩) al.length cp] w fun e w' => OpenNOk w ss al e w' := by
  obtain ⟨i77, hi77, hy0, hy1, hy2⟩ := info_parts info85
  obtain ⟨U, hU, hUr⟩ := h.stores
  obtain ⟨sa, cap, rfl, hx⟩ := h
  have h : SV w (.slice sa ss.length cap) ss := ⟨sa, cap, rfl, hx⟩
  have x0 : Ext w (w.alloc (.cells #[.slice sa ss.length cap] 34)) := (Ext.refl w).alloc _ _
  have n1 := fun j => new_cell w #[.slice sa ss.length cap] 34 w.heap.size rfl j
  have C0 : Hid ((w.alloc (.cells #[.slice sa ss.length cap] 34)).cell? ⟨w.heap.size, 0, none⟩ = some (.slice sa ss.length cap)) := n1 0
  have X0 := hide x0
  have HH := hide (h.keep x0.bl)
  have hvh := hide (iVH_any HH.out hg hl)
  have hl1 := hl.1
  have HUr := hide hUr
  have HU := hide hU
  have HA := hide ha
  clear hx h x0 n1 hU hUr ha
  generalize hW0 : (w.alloc (.cells #[.slice sa ss.length cap] 34)) = W0 at C0 X0 HH hvh
  have HW0 := hide hW0
  clear hW0
  cases hV : vHeap ss with
  | false =>
    have ho : Hid (firstL ss al = 1) := by show _ = _; unfold firstL; rw [if_neg (by rw [hV]; simp)]
    rw [hV] at hvh
    go_enter Tryz.func34, Tryz.ntmps34
    go_wp2_with (go_at_call 76; rw [HW0.out]; refine hvh.out.mono ?_; rintro e w1 ⟨rfl, x1⟩)
    refine bodyPost_ret (results_tmp2 rfl _ _ _) rfl ?_
    unfold OpenNOk
    rw [ho.out]
    exact ⟨_, rfl, (X0.out.trans x1).bl, Or.inl (by omega)⟩
  | true =>
    have ho : Hid (firstL ss al = if ∀ a ∈ al, a.Good ss then 0 else 2) := by show _ = _; unfold firstL; rw [if_pos hV]
    rw [hV] at hvh
    go_enter Tryz.func34, Tryz.ntmps34
    go_wp2_with fail
    rw [HW0.out]
    refine hvh.out.mono ?_
    rintro e w1 ⟨rfl, x1⟩
    have hmk := run_make (P := Tryz.prog) w1 75 85 i77 (.agg #[.int .i64 0, .int .i64 0, .int .i64 0, .int .i64 0, .int .i64 0, .int .i64 0, .int .i64 0, .int .i64 0, .int .i64 0, .int .i64 0, .int .i64 0, .int .i64 0, .slice none 0 0]) Tryz.underlying75 hi77 hy0 .i64 .i64 0 al.length (by omega) (by omega) (by rw [hy2]; omega) (by omega)
    simp only [Int.toNat_natCast] at hmk
    rw [hy1] at hmk
    have S0 := World.ownsRow_made (base := w1.heap.size) (e := 85) (size := 13) w1 (madeCells #[.int .i64 0, .int .i64 0, .int .i64 0, .int .i64 0, .int .i64 0, .int .i64 0, .int .i64 0, .int .i64 0, .int .i64 0, .int .i64 0, .int .i64 0, .int .i64 0, .slice none 0 0] (al.length * 13)) al.length (Nat.le_refl _) (by unfold maxLen; omega) (by simp [madeCells])
    have xm : Ext w1 (w1.alloc (.cells (madeCells #[.int .i64 0, .int .i64 0, .int .i64 0, .int .i64 0, .int .i64 0, .int .i64 0, .int .i64 0, .int .i64 0, .int .i64 0, .int .i64 0, .int .i64 0, .int .i64 0, .slice none 0 0] (al.length * 13)) 85)) := (Ext.refl w1).alloc _ _
    have X1 := hide (X0.out.trans x1)
    have CM := hide (x1.box C0.out)
    have HOwn := hide S0
    have XM := hide xm.bl
    clear x1 xm S0 C0 HH X0 hvh HW0
    go_wp2_with fail
    generalize hWm : w1.alloc (.cells (madeCells #[.int .i64 0, .int .i64 0, .int .i64 0, .int .i64 0, .int .i64 0, .int .i64 0, .int .i64 0, .int .i64 0, .int .i64 0, .int .i64 0, .int .i64 0, .int .i64 0, .slice none 0 0] (al.length * 13)) 85) = Wm at HOwn XM ⊢
    clear hWm hmk
    generalize hBB : w1.heap.size = BB at HOwn ⊢
    go_loopw [6, 20] (fun o i wr => ∃ k : Nat, i = .int .i64 k ∧ k ≤ al.length ∧ (∀ j, j < k → (al.getD j a0A).Good ss) ∧ Bel w1 wr ∧ wr.ownsRow BB 85 13 o k (openF U ss (al.take k))) (fun o i _ => al.length - (intOf i).toNat)
    case atStart => exact ⟨0, rfl, by omega, fun j hj => by omega, XM.out, by rw [List.take_zero]; exact HOwn.out⟩
    case round =>
      obtain ⟨k, rfl, hk, hgd, hB, hown⟩ := hrel
      have HO := hide hown
      have HB := hide hB
      have HGd := hide hgd
      clear hown hgd
      by_cases hkn : k < al.length
      · obtain ⟨vS, vT, q0, q1, q2, q3, i1, i2⟩ := HA.out k hkn
        have hBw : Bel w wr := Bel.tr X1.out.bl hB
        have q0 := Bel.box hBw q0
        have q1 := Bel.box hBw q1
        have q2 := Bel.box hBw q2
        have q3 := Bel.box hBw q3
        have i1 := ints_bel i1 hBw
        have i2 := ints_bel i2 hBw
        have hlen := hal _ (show al.getD k a0A ∈ al by rw [List.getD_eq_getElem?_getD, List.getElem?_eq_getElem hkn]; exact List.getElem_mem _)
        have c0 := Bel.box hB CM.out
        have HBW := hide hBw
        have hno : Hid (¬ (al.getD k a0A).Good ss → firstL ss al = 2) := fun q => by
          rw [ho.out, if_neg (fun z => q (z _ (by rw [List.getD_eq_getElem?_getD, List.getElem?_eq_getElem hkn]; exact List.getElem_mem _)))]
        have hnx : Hid ((al.getD k a0A).Good ss → ∀ j, j < k + 1 → (al.getD j a0A).Good ss) := fun q j hj => by
          by_cases e : j = k
          · rw [e]; exact q
          · exact HGd.out j (by omega)
        have HTK := hide (take_next U ss al hkn)
        have kk0 : (0 : Int) ≤ (k : Int) := Int.natCast_nonneg _
        have kk1 : (k : Int) < (al.length : Int) := by omega
        generalize al.getD k a0A = a at q0 q1 q2 q3 i1 i2 hlen hno hnx HTK
        obtain ⟨st, xs, sv, off⟩ := a
        simp only at q0 q1 q2 q3 i1 i2
        have lx : xs.length ≤ 1048576 := hlen.1
        have ls : sv.length ≤ 1048576 := hlen.2
        have HI1 := hide i1
        have HI2 := hide i2
        obtain ⟨s1, d1, rfl, _⟩ := i1
        obtain ⟨s2, d2, rfl, _⟩ := i2
        clear hB hBw hlen HGd
        have xa : Ext wr (wr.alloc (.cells #[.int .i64 st, .slice s1 xs.length d1, .slice s2 sv.length d2, .int .i64 off] 41)) := (Ext.refl wr).alloc _ _
        have c0a := xa.box c0
        by_cases h1 : st < 0
        · have hno := hide (hno.out (fun q => by have := q.1.1; simp at this; omega))
          have hd : decide (st < 0) = true := decide_eq_true h1
          go_wp2
          refine bodyPost_ret (results_tmp2 rfl _ _ _) rfl ?_
          unfold OpenNOk
          rw [hno.out]
          exact ⟨_, rfl, Bel.tr HBW.out xa.bl, Or.inl (by omega)⟩
        have hd1 : decide (st < 0) = false := decide_eq_false h1
        by_cases h2 : (ss.length : Int) ≤ st
        · have hno := hide (hno.out (fun q => by have := q.1.2; simp at this; omega))
          have hd : decide ((ss.length : Int) ≤ st) = true := decide_eq_true h2
          go_wp2
          refine bodyPost_ret (results_tmp2 rfl _ _ _) rfl ?_
          unfold OpenNOk
          rw [hno.out]
          exact ⟨_, rfl, Bel.tr HBW.out xa.bl, Or.inl (by omega)⟩
        have hd2 : decide ((ss.length : Int) ≤ st) = false := decide_eq_false h2
        obtain ⟨m, rfl⟩ : ∃ m : Nat, st = (m : Int) := ⟨st.toNat, by omega⟩
        have hm : m < ss.length := by omega
        have hm0 : (0 : Int) ≤ (m : Int) := Int.natCast_nonneg _
        have hm1 : (m : Int) < (ss.length : Int) := by omega
        rcases HUr.out with h0 | ⟨bs, os, cap', eb, hrow⟩
        · rw [h0] at hm; simp at hm
        injection eb with eb1 _ eb2
        subst eb1 eb2
        obtain ⟨t0, t1⟩ := hrow m hm
        have q4 := Bel.box HBW.out t0
        have q5 := Bel.box HBW.out t1
        have q4a := xa.box q4
        have q5a := xa.box q5
        have hcl := hl.at m hm
        have CVm := HU.out m hm
        obtain ⟨su, cu, hUm, _⟩ := CVm
        rw [hUm] at q5 q5a
        have hgood : Hid (ValidV xs sv off → (Ar.Good ss ⟨m, xs, sv, off⟩ ↔ inN xs sv off ((ss.getD m s0).2.length : Int) = true)) := fun hv => by
          rw [← good_in hv]
          unfold Ar.Good GoodA
          simp only [Int.toNat_natCast]
          exact ⟨fun q => q.2.2, fun q => ⟨⟨hm0, hm1⟩, hv, q⟩⟩
        have hbadv : Hid (¬ ValidV xs sv off → ¬ Ar.Good ss ⟨m, xs, sv, off⟩) := fun q1 q2 => q1 q2.2.1
        have HOP : Hid (Ar.open U ss ⟨m, xs, sv, off⟩ = openC xs sv off m (ss.getD m s0).1 (.slice su (ss.getD m s0).2.length cu)) := by
          show _ = _
          unfold Ar.open
          simp only [Int.toNat_natCast]
          rw [hUm]
        clear hrow t0 t1 hUm
        generalize (ss.getD m s0).1 = DT at q4 q4a HOP
        generalize (ss.getD m s0).2 = cs at q5 q5a hgood hcl HOP
        have xb : Ext (wr.alloc (.cells #[.int .i64 (m : Int), .slice s1 xs.length d1, .slice s2 sv.length d2, .int .i64 off] 41)) ((wr.alloc (.cells #[.int .i64 (m : Int), .slice s1 xs.length d1, .slice s2 sv.length d2, .int .i64 off] 41)).alloc (.cells #[.int .i64 DT, .slice su cs.length cu] 123)) := (Ext.refl _).alloc _ _
        have xab := xa.trans xb
        have hfix := hide (fixView_any (HI1.out.ext xab) (HI2.out.ext xab) off lx ls)
        have na := fun j => new_cell wr #[.int .i64 (m : Int), .slice s1 xs.length d1, .slice s2 sv.length d2, .int .i64 off] 41 wr.heap.size rfl j
        have nb := fun j => new_cell (wr.alloc (.cells #[.int .i64 (m : Int), .slice s1 xs.length d1, .slice s2 sv.length d2, .int .i64 off] 41)) #[.int .i64 DT, .slice su cs.length cu] 123 (wr.heap.size + 1) (by simp) j
        have NA0 : Hid (((wr.alloc (.cells #[.int .i64 (m : Int), .slice s1 xs.length d1, .slice s2 sv.length d2, .int .i64 off] 41)).alloc (.cells #[.int .i64 DT, .slice su cs.length cu] 123)).cell? ⟨wr.heap.size, 0, none⟩ = some (.int .i64 (m : Int))) := xb.box (na 0)
        have NB0 : Hid (((wr.alloc (.cells #[.int .i64 (m : Int), .slice s1 xs.length d1, .slice s2 sv.length d2, .int .i64 off] 41)).alloc (.cells #[.int .i64 DT, .slice su cs.length cu] 123)).cell? ⟨wr.heap.size + 1, 0, none⟩ = some (.int .i64 DT)) := nb 0
        have NB1 : Hid (((wr.alloc (.cells #[.int .i64 (m : Int), .slice s1 xs.length d1, .slice s2 sv.length d2, .int .i64 off] 41)).alloc (.cells #[.int .i64 DT, .slice su cs.length cu] 123)).cell? ⟨wr.heap.size + 1, 1, none⟩ = some (.slice su cs.length cu)) := nb 1
        have XAB := hide xab
        clear xa xb xab na nb
        by_cases hv : ValidV xs sv off
        · have hdv : (dcValidV xs sv off) = true := dcValidV_t hv
          have hgv := hide (hgood.out hv)
          have HV := hide hv
          clear hv
          clear hgood hbadv
          go_wp2_with fail
          refine hfix.out.mono ?_
          rintro e w4 ⟨A, rfl, hA, _, x4⟩
          obtain rfl := hA HV.out
          rw [hdv]
          have p0 := x4.box NA0.out
          have p1 := x4.box NB0.out
          have p2 := x4.box NB1.out
          have X4 := hide (XAB.out.trans x4)
          clear x4 hfix NA0 NB0 NB1 XAB
          have hr := HV.out.1.2.1
          have hx4 := HV.out.1.1
          have hl2 := HV.out.2.1
          have ho2 := HV.out.2.2.1
          have hs2 := HV.out.2.2.2.1
          have xf : Ext w4 (w4.alloc (.cells (vw xs sv off) 83)) := (Ext.refl w4).alloc _ _
          have hwi := hide (within_n (cs.length : Int) ⟨by omega, by omega⟩ (w4.alloc (.cells (vw xs sv off) 83)) xs sv off hx4 hr hl2 hs2 ho2)
          have p0f := xf.box p0
          have p1f := xf.box p1
          have p2f := xf.box p2
          have nf := fun j => new_cell w4 (vw xs sv off) 83 w4.heap.size rfl j
          have NF := hide nf
          have X5 := hide (X4.out.trans xf)
          clear xf nf hr hx4 hl2 ho2 hs2
          have HC : Hid (∀ (st dt : Int) (u : Value), openC xs sv off st dt u = [.int .i64 xs.length, .int .i64 (xs.getD 0 0), .int .i64 (xs.getD 1 0), .int .i64 (xs.getD 2 0), .int .i64 (xs.getD 3 0), .int .i64 (sv.getD 0 0), .int .i64 (sv.getD 1 0), .int .i64 (sv.getD 2 0), .int .i64 (sv.getD 3 0), .int .i64 off, .int .i64 st, .int .i64 dt, u]) := fun _ _ _ => rfl
          unfold vw at p0f p1f p2f hwi NF X5 ⊢
          generalize xs.getD 0 0 = a0 at p0f p1f p2f hwi NF X5 HC ⊢
          generalize xs.getD 1 0 = a1 at p0f p1f p2f hwi NF X5 HC ⊢
          generalize xs.getD 2 0 = a2 at p0f p1f p2f hwi NF X5 HC ⊢
          generalize xs.getD 3 0 = a3 at p0f p1f p2f hwi NF X5 HC ⊢
          generalize sv.getD 0 0 = b0 at p0f p1f p2f hwi NF X5 HC ⊢
          generalize sv.getD 1 0 = b1 at p0f p1f p2f hwi NF X5 HC ⊢
          generalize sv.getD 2 0 = b2 at p0f p1f p2f hwi NF X5 HC ⊢
          generalize sv.getD 3 0 = b3 at p0f p1f p2f hwi NF X5 HC ⊢
          cases hin : inN xs sv off (cs.length : Int) with
          | false =>
            have hno := hide (hno.out (fun q => by have := hgv.out.1 q; rw [hin] at this; cases this))
            rw [hin] at hwi
            go_wp2_with (go_at_call 78; refine hwi.out.mono ?_; rintro e w6 ⟨rfl, x6⟩)
            refine bodyPost_ret (results_tmp2 rfl _ _ _) rfl ?_
            unfold OpenNOk
            rw [hno.out]
            exact ⟨_, rfl, Bel.tr HBW.out (X5.out.trans x6).bl, Or.inl (by omega)⟩
          | true =>
            have hG := hide (hnx.out (hgv.out.2 hin))
            rw [hin] at hwi
            go_wp2_with fail
            refine hwi.out.mono ?_
            rintro e w6 ⟨rfl, x6⟩
            have r0 := x6.box p0f
            have r1 := x6.box p1f
            have r2 := x6.box p2f
            have f0 := x6.box (NF.out 0)
            have f1 := x6.box (NF.out 1)
            have f2 := x6.box (NF.out 2)
            have f3 := x6.box (NF.out 3)
            have f4 := x6.box (NF.out 4)
            have f5 := x6.box (NF.out 5)
            have f6 := x6.box (NF.out 6)
            have f7 := x6.box (NF.out 7)
            have f8 := x6.box (NF.out 8)
            have f9 := x6.box (NF.out 9)
            have X6 := hide (X5.out.trans x6)
            clear x6 hwi NF p0f p1f p2f
            have HO6 := hide (own_ext HO.out X6.out)
            have hsz6 : BB ≤ (w6.alloc (.cells #[.int .i64 xs.length, .int .i64 a0, .int .i64 a1, .int .i64 a2, .int .i64 a3, .int .i64 b0, .int .i64 b1, .int .i64 b2, .int .i64 b3, .int .i64 off, .int .i64 (m : Int), .int .i64 DT, .slice su cs.length cu] 85)).heap.size := by rw [← hBB]; exact Below.size (Bel.tr HB.out (X6.out.alloc _ _).bl)
            have hnew : ∀ j x, ([.int .i64 xs.length, .int .i64 a0, .int .i64 a1, .int .i64 a2, .int .i64 a3, .int .i64 b0, .int .i64 b1, .int .i64 b2, .int .i64 b3, .int .i64 off, .int .i64 (m : Int), .int .i64 DT, .slice su cs.length cu] : List Value)[j]? = some x → (w6.alloc (.cells #[.int .i64 xs.length, .int .i64 a0, .int .i64 a1, .int .i64 a2, .int .i64 a3, .int .i64 b0, .int .i64 b1, .int .i64 b2, .int .i64 b3, .int .i64 off, .int .i64 (m : Int), .int .i64 DT, .slice su cs.length cu] 85)).cell? ((⟨w6.heap.size, 0, none⟩ : Addr).add j) = some x := fun j x hx => by
              have n1 := fun j => new_cell w6 #[.int .i64 xs.length, .int .i64 a0, .int .i64 a1, .int .i64 a2, .int .i64 a3, .int .i64 b0, .int .i64 b1, .int .i64 b2, .int .i64 b3, .int .i64 off, .int .i64 (m : Int), .int .i64 DT, .slice su cs.length cu] 85 w6.heap.size rfl j
              rw [Addr.add_lit, Nat.zero_add, n1 j]
              simpa using hx
            have hone : ∀ x ∈ ([.int .i64 xs.length, .int .i64 a0, .int .i64 a1, .int .i64 a2, .int .i64 a3, .int .i64 b0, .int .i64 b1, .int .i64 b2, .int .i64 b3, .int .i64 off, .int .i64 (m : Int), .int .i64 DT, .slice su cs.length cu] : List Value), x.oneCell' = true := fun x hx => by
              simp only [List.mem_cons, List.not_mem_nil, or_false] at hx
              rcases hx with rfl | rfl | rfl | rfl | rfl | rfl | rfl | rfl | rfl | rfl | rfl | rfl | rfl <;> rfl
            have Hsz6 := hide hsz6
            have Hnew := hide hnew
            have Hone := hide hone
            clear hsz6 hnew hone
            go_wp2_with (at_builtin; (refine wpList_append_own_at _ rfl _ _ 75 rfl BB 85 i77 (.agg #[.int .i64 0, .int .i64 0, .int .i64 0, .int .i64 0, .int .i64 0, .int .i64 0, .int .i64 0, .int .i64 0, .int .i64 0, .int .i64 0, .int .i64 0, .int .i64 0, .slice none 0 0]) 13 120 Tryz.underlying75 hi77 hy0 hy1 hy2 rfl (by decide) _ _ _ rfl (HO6.out.alloc _) ⟨w6.heap.size, 0, none⟩ 1 1 [.int .i64 xs.length, .int .i64 a0, .int .i64 a1, .int .i64 a2, .int .i64 a3, .int .i64 b0, .int .i64 b1, .int .i64 b2, .int .i64 b3, .int .i64 off, .int .i64 (m : Int), .int .i64 DT, .slice su cs.length cu] rfl rfl Hnew.out Hone.out (by unfold maxLen; omega) (by omega) Hsz6.out ?_); intro v9 w9 hown9 hgrow9 hnil9 hat9; have HO9 := hide hown9; have HG9 := hide hgrow9; clear hown9 hgrow9 hnil9 hat9)
            have BEL : Bel w1 w9 := Below.grown (Bel.tr HB.out (X6.out.alloc _ _).bl) HG9.out (by rw [hBB]; exact Hsz6.out) (fun j hj => by rw [hBB]; exact (HO.out.lt j hj).1)
            have HBEL := hide BEL
            clear BEL
            go_roundw
            · refine ⟨k + 1, by go_num, by omega, hG.out, HBEL.out, ?_⟩
              rw [HTK.out, HOP.out, HC.out]
              exact HO9.out
            · simp [intOf]; omega
        · have hdv : (dcValidV xs sv off) = false := dcValidV_f hv
          have hno := hide (hno.out (hbadv.out hv))
          clear hv
          go_wp2_with fail
          refine hfix.out.mono ?_
          rintro e w4 ⟨A, rfl, _, ⟨a0, a1, a2, a3, a4, a5, a6, a7, a8, a9, rfl⟩, x4⟩
          rw [hdv]
          go_wp2
          refine bodyPost_ret (results_tmp2 rfl _ _ _) rfl ?_
          unfold OpenNOk
          rw [hno.out]
          exact ⟨_, rfl, Bel.tr HBW.out ((XAB.out.trans x4).alloc _ _).bl, Or.inl (by omega)⟩
      · have hkk : k = al.length := by omega
        subst hkk
        have hall : Hid (∀ a ∈ al, a.Good ss) := fun a ha => by
          obtain ⟨j, hj, e⟩ := List.mem_iff_getElem.1 ha
          have := HGd.out j hj
          rw [List.getD_eq_getElem?_getD, List.getElem?_eq_getElem hj] at this
          rw [← e]; exact this
        go_wp2
        refine bodyPost_ret (results_tmp2 rfl _ _ _) rfl ?_
        unfold OpenNOk
        rw [ho.out, if_pos hall.out]
        obtain ⟨g, cap', rfl, hgb⟩ := own_g HO.out hn0
        have hown := HO.out
        rw [List.take_length] at hown
        refine ⟨_, rfl, Bel.tr X1.out.bl HB.out, Or.inr ⟨g, cap', U, rfl, ?_, hall.out, HU.out, fun j i x hj hx => ?_⟩⟩
        · have := Below.size X1.out.bl
          omega
        · have hi : i < 13 := by
            have := (List.getElem?_eq_some_iff.1 hx).1
            rwa [Ar.open_len] at this
          rw [← openF_get U ss al j i hj hi] at hx
          exact (hown.cellAt _ (by omega)).trans hx
end Go.Proofs.YtfhcpicddegblaaGreat
