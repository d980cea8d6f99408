import Derived.Test.YtanbgpmbccianaaDDr
import Derived.Test.YtanbgpmbccianaaM11
import Derived.Test.YtanbgpmbccianaaM12
import Derived.Maps.AppendAt
namespace Go.Proofs.Ytanbgpmbccianaa
open Go.ChangeShapes Go.RowKit FL
set_option linter.unusedSimpArgs false
set_option linter.unusedVariables false
theorem info77 : (Try.prog.info? 74).map (fun i => (i.zero, i.size, i.bytes)) = some (some (.agg #[.int .i64 0, .int .i64 0, .int .i64 0, .int .i64 0, .int .i64 0, .int .i64 0, .int .i64 0, .int .i64 0, .int .i64 0, .int .i64 0, .int .i64 0, .int .i64 0, .slice none 0 0]), 13, 120) := by kernel_rfl
theorem good_in {xs sv : List Int} {off : Int} (hv : ValidV xs sv off) (N : Int) : (∀ p ∈ offsL xs sv off, p < N) ↔ inN xs sv off N = true := by
  unfold offsL inN
  rw [decide_eq_true_iff]
  by_cases h : prod xs = 0
  · rw [if_pos h]
    exact ⟨fun _ => Or.inl h, fun _ p hp => by simp at hp⟩
  · rw [if_neg h]
    have hr := hv.2.2.2.2.resolve_left h
    have hp := good_pos hv.1 h
    have he := ends_in xs sv off hv.2.1.symm (fun n hn => (hp n hn).1)
    exact ⟨fun q => Or.inr ⟨hr.1, q _ he.2⟩, fun q p hpp => by
      have h1 := (q.resolve_left h).2
      have h2 := places_in xs sv off p hpp hv.2.1.symm
      omega⟩
/-- The opened array as the program keeps it. -/
def openC (xs sv : List Int) (off st dt : Int) (u : Value) : List Value := [.int .i64 xs.length, .int .i64 (xs.getD 0 0), .int .i64 (xs.getD 1 0), .int .i64 (xs.getD 2 0), .int .i64 (xs.getD 3 0), .int .i64 (sv.getD 0 0), .int .i64 (sv.getD 1 0), .int .i64 (sv.getD 2 0), .int .i64 (sv.getD 3 0), .int .i64 off, .int .i64 st, .int .i64 dt, u]
/-- The code of openArrays of one array. -/
def openL (ss : List St) (st : Int) (xs sv : List Int) (off : Int) : Int := if vHeap ss = true then (if GoodA ss st xs sv off then 0 else 2) else 1
def OpenOk (w : World) (ss : List St) (st : Int) (xs sv : List Int) (off : Int) (e : Ending) (w' : World) : Prop :=
  ∃ v, e = .returned (.tuple #[v, .int .i64 (openL ss st xs sv off)]) ∧ Bel w w' ∧ ((openL ss st xs sv off ≠ 0 ∧ v = .slice none 0 0) ∨
    (openL ss st xs sv off = 0 ∧ ∃ g cap u, v = .slice (some ⟨g, 0, none⟩) 1 cap ∧ CV w' u (ss.getD st.toNat s0).2 ∧ ∀ j x, (openC xs sv off st (ss.getD st.toNat s0).1 u)[j]? = some x → w'.cell? ⟨g, j, none⟩ = some x))
theorem own_ext {w w' : World} {base e size n : Nat} {v : Value} {xs : List Value} (h : w.ownsRow base e size v n xs) (x : Ext w w') : w'.ownsRow base e size v n xs := by
  refine ⟨h.1, ?_⟩
  rcases h.2 with h | ⟨g, cap, cur, rfl, h1, h2, h3⟩
  · exact Or.inl h
  · exact Or.inr ⟨g, cap, cur, rfl, h1, by rw [x.bl.block g (Array.getElem?_eq_some_iff.1 h2).1]; exact h2, h3⟩
theorem own_g {w : World} {base e size n : Nat} {v : Value} {xs : List Value} (h : w.ownsRow base e size v n xs) (hn : 0 < n) : ∃ g cap, v = .slice (some ⟨g, 0, none⟩) n cap ∧ base ≤ g := by
  rcases h.2 with ⟨_, h2⟩ | ⟨g, cap, cur, h1, h2, _⟩
  · omega
  · exact ⟨g, cap, h1, h2⟩
theorem openC_one (xs sv : List Int) (off st dt : Int) (u : Value) (hu : u.oneCell' = true) : ∀ x ∈ openC xs sv off st dt u, x.oneCell' = true := fun x hx => by
  simp only [openC, List.mem_cons, List.not_mem_nil, or_false] at hx
  rcases hx with rfl | rfl | rfl | rfl | rfl | rfl | rfl | rfl | rfl | rfl | rfl | rfl | rfl <;> first | rfl | exact hu
def OpDone (w : World) (ss : List St) (st : Int) (xs sv : List Int) (off : Int) (o : Value) (wr : World) : Prop := GoodA ss st xs sv off ∧ Bel w wr ∧ ∃ g cap u, o = .slice (some ⟨g, 0, none⟩) 1 cap ∧ CV wr u (ss.getD st.toNat s0).2 ∧ ∀ j x, (openC xs sv off st (ss.getD st.toNat s0).1 u)[j]? = some x → wr.cell? ⟨g, j, none⟩ = some x
def OpRel (w Wm : World) (b : Nat) (ss : List St) (st : Int) (xs sv : List Int) (off : Int) (o i : Value) (wr : World) : Prop := (i = .int .i64 0 ∧ o = .slice (some ⟨b, 0, none⟩) 0 1 ∧ wr = Wm) ∨ (i = .int .i64 1 ∧ OpDone w ss st xs sv off o wr)

set_option maxRecDepth 100000 in
set_option maxHeartbeats 4000000 in
theorem open_any {w : World} {v vS vT : Value} {ss : List St} {xs sv : List Int} {ga oa : Nat} (h : SV w v ss) (hg : SG ss) (hl : SL ss 1048576) (st : Int) (hS : Ints w vS xs) (hT : Ints w vT sv) (off : Int) (lx : xs.length ≤ 1048576) (ls : sv.length ≤ 1048576)
    (b0 : w.cell? ⟨ga, oa, none⟩ = some (.int .i64 st)) (b1 : w.cell? ⟨ga, oa + 1, none⟩ = some vS) (b2 : w.cell? ⟨ga, oa + 2, none⟩ = some vT) (b3 : w.cell? ⟨ga, oa + 3, none⟩ = some (.int .i64 off)) :
    Calls Try.prog 26 #[.agg #[v], .slice (some ⟨ga, oa, none⟩) 1 1] w fun e w' => OpenOk w ss st xs sv off e w' := by
  obtain ⟨i77, hi77, hy0, hy1, hy2⟩ := info_parts info77
  obtain ⟨sa, cap, rfl, hx⟩ := h
  have h : SV w (.slice sa ss.length cap) ss := ⟨sa, cap, rfl, hx⟩
  have x0 : Ext w (w.alloc (.cells #[.slice sa ss.length cap] 36)) := (Ext.refl w).alloc _ _
  have n1 := fun j => new_cell w #[.slice sa ss.length cap] 36 w.heap.size rfl j
  have C0 : Hid ((w.alloc (.cells #[.slice sa ss.length cap] 36)).cell? ⟨w.heap.size, 0, none⟩ = some (.slice sa ss.length cap)) := n1 0
  have X0 := hide x0
  have HH := hide (h.keep x0.bl)
  have HS := hide (hS.ext x0)
  have HT := hide (hT.ext x0)
  have B0 := hide (x0.box b0)
  have B1 := hide (x0.box b1)
  have B2 := hide (x0.box b2)
  have B3 := hide (x0.box b3)
  have hvh := hide (iVH_any HH.out hg hl)
  have hl1 := hl.1
  have H00 := hide h
  clear hx h x0 n1 b0 b1 b2 b3
  obtain ⟨s1, d1, rfl, _⟩ := hS
  obtain ⟨s2, d2, rfl, _⟩ := hT
  generalize hW0 : (w.alloc (.cells #[.slice sa ss.length cap] 36)) = W0 at C0 X0 HH HS HT B0 B1 B2 B3 hvh
  have HW0 := hide hW0
  clear hW0
  cases hV : vHeap ss with
  | false =>
    have ho : Hid (openL ss st xs sv off = 1) := by show openL ss st xs sv off = 1; unfold openL; rw [if_neg (by rw [hV]; simp)]
    rw [hV] at hvh
    go_enter Try.func26, Try.ntmps26
    go_wp2_with (go_at_call 34; rw [HW0.out]; refine hvh.out.mono ?_; rintro e w1 ⟨rfl, x1⟩)
    refine bodyPost_ret (results_tmp2 rfl _ _ _) rfl ?_
    unfold OpenOk
    rw [ho.out]
    exact ⟨_, rfl, (X0.out.trans x1).bl, Or.inl ⟨by omega, rfl⟩⟩
  | true =>
    have ho : Hid (openL ss st xs sv off = if GoodA ss st xs sv off then 0 else 2) := by show openL ss st xs sv off = _; unfold openL; rw [if_pos hV]
    rw [hV] at hvh
    go_enter Try.func26, Try.ntmps26
    go_wp2_with fail
    rw [HW0.out]
    refine hvh.out.mono ?_
    rintro e w1 ⟨rfl, x1⟩
    have hmk := run_make (P := Try.prog) w1 70 74 i77 (.agg #[.int .i64 0, .int .i64 0, .int .i64 0, .int .i64 0, .int .i64 0, .int .i64 0, .int .i64 0, .int .i64 0, .int .i64 0, .int .i64 0, .int .i64 0, .int .i64 0, .slice none 0 0]) Try.underlying70 hi77 hy0 .i64 .i64 0 1 (by omega) (by omega) (by rw [hy2]; omega) (by omega)
    have S0 := World.ownsRow_made (base := w.heap.size) (e := 74) (size := 13) w1 (madeCells #[.int .i64 0, .int .i64 0, .int .i64 0, .int .i64 0, .int .i64 0, .int .i64 0, .int .i64 0, .int .i64 0, .int .i64 0, .int .i64 0, .int .i64 0, .int .i64 0, .slice none 0 0] (1 * 13)) 1 (Below.size (X0.out.trans x1).bl) (by unfold maxLen; omega) (by simp [madeCells])
    have xm : Ext w1 (w1.alloc (.cells (madeCells #[.int .i64 0, .int .i64 0, .int .i64 0, .int .i64 0, .int .i64 0, .int .i64 0, .int .i64 0, .int .i64 0, .int .i64 0, .int .i64 0, .int .i64 0, .int .i64 0, .slice none 0 0] (1 * 13)) 74)) := (Ext.refl w1).alloc _ _
    have xx := x1.trans xm
    have XM := hide (X0.out.trans xx)
    have CM := hide (xx.box C0.out)
    have HHM := hide (HH.out.keep xx.bl)
    have HSM := hide (HS.out.ext xx)
    have HTM := hide (HT.out.ext xx)
    have BM0 := hide (xx.box B0.out)
    have BM1 := hide (xx.box B1.out)
    have BM2 := hide (xx.box B2.out)
    have BM3 := hide (xx.box B3.out)
    have HOwn := hide S0
    clear x1 xm xx S0 C0 HH HS HT B0 B1 B2 B3 X0 hvh HW0
    go_wp2_with fail
    generalize hWm : w1.alloc (.cells (madeCells #[.int .i64 0, .int .i64 0, .int .i64 0, .int .i64 0, .int .i64 0, .int .i64 0, .int .i64 0, .int .i64 0, .int .i64 0, .int .i64 0, .int .i64 0, .int .i64 0, .slice none 0 0] (1 * 13)) 74) = Wm at XM CM HHM HSM HTM BM0 BM1 BM2 BM3 HOwn
    have HWm := hide hWm
    clear hWm hmk
    first | rw [HWm.out] | skip
    generalize w1.heap.size = BB at HOwn ⊢
    go_loopw [6, 20] (fun o i wr => OpRel w Wm BB ss st xs sv off o i wr) (fun o i _ => 1 - (intOf i).toNat)
    case atStart => exact Or.inl ⟨rfl, rfl, by first | rfl | exact HWm.out⟩
    case round =>
      rcases hrel with ⟨rfl, rfl, rfl⟩ | ⟨rfl, hD⟩
      · have c0 := CM.out
        have b0 := BM0.out
        have b1 := BM1.out
        have b2 := BM2.out
        have b3 := BM3.out
        have xa : Ext wr (wr.alloc (.cells #[.int .i64 st, .slice s1 xs.length d1, .slice s2 sv.length d2, .int .i64 off] 42)) := (Ext.refl wr).alloc _ _
        have c0a := xa.box c0
        by_cases h1 : st < 0
        · have hno : Hid (openL ss st xs sv off = 2) := by show openL ss st xs sv off = 2; rw [ho.out, if_neg (fun q => by have := q.1.1; omega)]
          have hd : decide (st < 0) = true := decide_eq_true h1
          go_wp2
          refine bodyPost_ret (results_tmp2 rfl _ _ _) rfl ?_
          unfold OpenOk
          rw [hno.out]
          exact ⟨_, rfl, (XM.out.trans xa).bl, Or.inl ⟨by omega, rfl⟩⟩
        have hd1 : decide (st < 0) = false := decide_eq_false h1
        by_cases h2 : (ss.length : Int) ≤ st
        · have hno : Hid (openL ss st xs sv off = 2) := by show openL ss st xs sv off = 2; rw [ho.out, if_neg (fun q => by have := q.1.2; omega)]
          have hd : decide ((ss.length : Int) ≤ st) = true := decide_eq_true h2
          go_wp2
          refine bodyPost_ret (results_tmp2 rfl _ _ _) rfl ?_
          unfold OpenOk
          rw [hno.out]
          exact ⟨_, rfl, (XM.out.trans xa).bl, Or.inl ⟨by omega, rfl⟩⟩
        have hd2 : decide ((ss.length : Int) ≤ st) = false := decide_eq_false h2
        obtain ⟨k, rfl⟩ : ∃ k : Nat, st = (k : Int) := ⟨st.toNat, by omega⟩
        have hk : k < ss.length := by omega
        have hk0 : (0 : Int) ≤ (k : Int) := Int.natCast_nonneg _
        have hk1 : (k : Int) < (ss.length : Int) := by omega
        obtain ⟨sb0, cb0, eb0, hrow0⟩ := HHM.out
        injection eb0 with eb1 _ eb2
        subst eb1 eb2
        rcases hrow0 with h0 | ⟨bs, os, rfl, hrow⟩
        · rw [h0] at hk; simp at hk
        obtain ⟨q0, u, q1, q2⟩ := hrow k hk
        have CVw : Hid (CV w u (ss.getD k s0).2) := by
          obtain ⟨sb9, cb9, eb9, hrow9⟩ := H00.out
          injection eb9 with eb8 _ eb7
          rcases hrow9 with h0 | ⟨b9, o9, e9, hrow9⟩
          · rw [h0] at hk; simp at hk
          · rw [e9] at eb8
            injection eb8 with eb8
            injection eb8 with e3 e4 _
            subst e3 e4
            obtain ⟨_, u9, hu9, cv9⟩ := hrow9 k hk
            have := (XM.out.box hu9).symm.trans q1
            injection this with this
            rw [← this]
            exact cv9
        have hcl := hl.at k hk
        have q0a := xa.box q0
        have q1a := xa.box q1
        have Q2 := hide q2
        clear hrow q2
        obtain ⟨su, cu, rfl, _⟩ := Q2.out
        have hgood : Hid (ValidV xs sv off → (GoodA ss k xs sv off ↔ inN xs sv off ((ss.getD k s0).2.length : Int) = true)) := fun hv => by
          rw [← good_in hv]
          unfold GoodA
          rw [Int.toNat_natCast]
          exact ⟨fun q => q.2.2, fun q => ⟨⟨hk0, hk1⟩, hv, q⟩⟩
        have hbadv : Hid (¬ ValidV xs sv off → ¬ GoodA ss k xs sv off) := fun q1 q2 => q1 q2.2.1
        have hsk : Hid (ss.getD (k : Int).toNat s0 = ((ss.getD k s0).1, (ss.getD k s0).2)) := by show ss.getD (k : Int).toNat s0 = _; rw [Int.toNat_natCast]
        generalize (ss.getD k s0).1 = DT at q0 q0a hsk
        generalize (ss.getD k s0).2 = cs at q1 q1a Q2 hgood hcl hsk CVw
        have xb : Ext (wr.alloc (.cells #[.int .i64 (k : Int), .slice s1 xs.length d1, .slice s2 sv.length d2, .int .i64 off] 42)) ((wr.alloc (.cells #[.int .i64 (k : Int), .slice s1 xs.length d1, .slice s2 sv.length d2, .int .i64 off] 42)).alloc (.cells #[.int .i64 DT, .slice su cs.length cu] 33)) := (Ext.refl _).alloc _ _
        have xab := xa.trans xb
        have hfix := hide (fixView_any (HSM.out.ext xab) (HTM.out.ext xab) off lx ls)
        have na := fun j => new_cell wr #[.int .i64 (k : Int), .slice s1 xs.length d1, .slice s2 sv.length d2, .int .i64 off] 42 wr.heap.size rfl j
        have nb := fun j => new_cell (wr.alloc (.cells #[.int .i64 (k : Int), .slice s1 xs.length d1, .slice s2 sv.length d2, .int .i64 off] 42)) #[.int .i64 DT, .slice su cs.length cu] 33 (wr.heap.size + 1) (by simp) j
        have NA0 : Hid (((wr.alloc (.cells #[.int .i64 (k : Int), .slice s1 xs.length d1, .slice s2 sv.length d2, .int .i64 off] 42)).alloc (.cells #[.int .i64 DT, .slice su cs.length cu] 33)).cell? ⟨wr.heap.size, 0, none⟩ = some (.int .i64 (k : Int))) := xb.box (na 0)
        have NB0 : Hid (((wr.alloc (.cells #[.int .i64 (k : Int), .slice s1 xs.length d1, .slice s2 sv.length d2, .int .i64 off] 42)).alloc (.cells #[.int .i64 DT, .slice su cs.length cu] 33)).cell? ⟨wr.heap.size + 1, 0, none⟩ = some (.int .i64 DT)) := nb 0
        have NB1 : Hid (((wr.alloc (.cells #[.int .i64 (k : Int), .slice s1 xs.length d1, .slice s2 sv.length d2, .int .i64 off] 42)).alloc (.cells #[.int .i64 DT, .slice su cs.length cu] 33)).cell? ⟨wr.heap.size + 1, 1, none⟩ = some (.slice su cs.length cu)) := nb 1
        have XAB := hide xab
        clear xa xb xab na nb
        by_cases hv : ValidV xs sv off
        · have hdv : (dcValidV xs sv off) = true := dcValidV_t hv
          have hgv := hide (hgood.out hv)
          have HV := hide hv
          clear hv
          clear hgood hbadv
          go_wp2_with fail
          refine hfix.out.mono ?_
          rintro e w4 ⟨A, rfl, hA, _, x4⟩
          obtain rfl := hA HV.out
          rw [hdv]
          have p0 := x4.box NA0.out
          have p1 := x4.box NB0.out
          have p2 := x4.box NB1.out
          have X4 := hide (XAB.out.trans x4)
          clear x4 hfix NA0 NB0 NB1 XAB
          have hr := HV.out.1.2.1
          have hx4 := HV.out.1.1
          have hl2 := HV.out.2.1
          have ho2 := HV.out.2.2.1
          have hs2 := HV.out.2.2.2.1
          have xf : Ext w4 (w4.alloc (.cells (vw xs sv off) 58)) := (Ext.refl w4).alloc _ _
          have hwi := hide (within_n (cs.length : Int) ⟨by omega, by omega⟩ (w4.alloc (.cells (vw xs sv off) 58)) xs sv off hx4 hr hl2 hs2 ho2)
          have p0f := xf.box p0
          have p1f := xf.box p1
          have p2f := xf.box p2
          have nf := fun j => new_cell w4 (vw xs sv off) 58 w4.heap.size rfl j
          have NF := hide nf
          have X5 := hide (X4.out.trans xf)
          clear xf nf hr hx4 hl2 ho2 hs2
          have HC : Hid (∀ (st dt : Int) (u : Value), openC xs sv off st dt u = [.int .i64 xs.length, .int .i64 (xs.getD 0 0), .int .i64 (xs.getD 1 0), .int .i64 (xs.getD 2 0), .int .i64 (xs.getD 3 0), .int .i64 (sv.getD 0 0), .int .i64 (sv.getD 1 0), .int .i64 (sv.getD 2 0), .int .i64 (sv.getD 3 0), .int .i64 off, .int .i64 st, .int .i64 dt, u]) := fun _ _ _ => rfl
          unfold vw at p0f p1f p2f hwi NF X5 ⊢
          generalize xs.getD 0 0 = a0 at p0f p1f p2f hwi NF X5 HC ⊢
          generalize xs.getD 1 0 = a1 at p0f p1f p2f hwi NF X5 HC ⊢
          generalize xs.getD 2 0 = a2 at p0f p1f p2f hwi NF X5 HC ⊢
          generalize xs.getD 3 0 = a3 at p0f p1f p2f hwi NF X5 HC ⊢
          generalize sv.getD 0 0 = b0 at p0f p1f p2f hwi NF X5 HC ⊢
          generalize sv.getD 1 0 = b1 at p0f p1f p2f hwi NF X5 HC ⊢
          generalize sv.getD 2 0 = b2 at p0f p1f p2f hwi NF X5 HC ⊢
          generalize sv.getD 3 0 = b3 at p0f p1f p2f hwi NF X5 HC ⊢
          cases hin : inN xs sv off (cs.length : Int) with
          | false =>
            have hno : Hid (openL ss k xs sv off = 2) := by show openL ss k xs sv off = 2; rw [ho.out, if_neg (fun q => by have := hgv.out.1 q; rw [hin] at this; cases this)]
            rw [hin] at hwi
            go_wp2_with (go_at_call 30; refine hwi.out.mono ?_; rintro e w6 ⟨rfl, x6⟩)
            refine bodyPost_ret (results_tmp2 rfl _ _ _) rfl ?_
            unfold OpenOk
            rw [hno.out]
            exact ⟨_, rfl, ((XM.out.trans X5.out).trans x6).bl, Or.inl ⟨by omega, rfl⟩⟩
          | true =>
            have hG : Hid (GoodA ss k xs sv off) := hgv.out.2 hin
            rw [hin] at hwi
            go_wp2_with fail
            refine hwi.out.mono ?_
            rintro e w6 ⟨rfl, x6⟩
            have r0 := x6.box p0f
            have r1 := x6.box p1f
            have r2 := x6.box p2f
            have f0 := x6.box (NF.out 0)
            have f1 := x6.box (NF.out 1)
            have f2 := x6.box (NF.out 2)
            have f3 := x6.box (NF.out 3)
            have f4 := x6.box (NF.out 4)
            have f5 := x6.box (NF.out 5)
            have f6 := x6.box (NF.out 6)
            have f7 := x6.box (NF.out 7)
            have f8 := x6.box (NF.out 8)
            have f9 := x6.box (NF.out 9)
            have X6 := hide (X5.out.trans x6)
            clear x6 hwi NF p0f p1f p2f
            have HO6 := hide (own_ext HOwn.out X6.out)
            have hsz6 : w.heap.size ≤ (w6.alloc (.cells #[.int .i64 xs.length, .int .i64 a0, .int .i64 a1, .int .i64 a2, .int .i64 a3, .int .i64 b0, .int .i64 b1, .int .i64 b2, .int .i64 b3, .int .i64 off, .int .i64 (k : Int), .int .i64 DT, .slice su cs.length cu] 74)).heap.size := Below.size ((XM.out.trans X6.out).alloc _ _).bl
            have hnew : ∀ j x, ([.int .i64 xs.length, .int .i64 a0, .int .i64 a1, .int .i64 a2, .int .i64 a3, .int .i64 b0, .int .i64 b1, .int .i64 b2, .int .i64 b3, .int .i64 off, .int .i64 (k : Int), .int .i64 DT, .slice su cs.length cu] : List Value)[j]? = some x → (w6.alloc (.cells #[.int .i64 xs.length, .int .i64 a0, .int .i64 a1, .int .i64 a2, .int .i64 a3, .int .i64 b0, .int .i64 b1, .int .i64 b2, .int .i64 b3, .int .i64 off, .int .i64 (k : Int), .int .i64 DT, .slice su cs.length cu] 74)).cell? ((⟨w6.heap.size, 0, none⟩ : Addr).add j) = some x := fun j x hx => by
              have n1 := fun j => new_cell w6 #[.int .i64 xs.length, .int .i64 a0, .int .i64 a1, .int .i64 a2, .int .i64 a3, .int .i64 b0, .int .i64 b1, .int .i64 b2, .int .i64 b3, .int .i64 off, .int .i64 (k : Int), .int .i64 DT, .slice su cs.length cu] 74 w6.heap.size rfl j
              rw [Addr.add_lit, Nat.zero_add, n1 j]
              simpa using hx
            have hone : ∀ x ∈ ([.int .i64 xs.length, .int .i64 a0, .int .i64 a1, .int .i64 a2, .int .i64 a3, .int .i64 b0, .int .i64 b1, .int .i64 b2, .int .i64 b3, .int .i64 off, .int .i64 (k : Int), .int .i64 DT, .slice su cs.length cu] : List Value), x.oneCell' = true := fun x hx => by
              simp only [List.mem_cons, List.not_mem_nil, or_false] at hx
              rcases hx with rfl | rfl | rfl | rfl | rfl | rfl | rfl | rfl | rfl | rfl | rfl | rfl | rfl <;> rfl
            have Hsz6 := hide hsz6
            have Hnew := hide hnew
            have Hone := hide hone
            clear hsz6 hnew hone
            go_wp2_with (at_builtin; (refine wpList_append_own_at _ rfl _ _ 70 rfl w.heap.size 74 i77 (.agg #[.int .i64 0, .int .i64 0, .int .i64 0, .int .i64 0, .int .i64 0, .int .i64 0, .int .i64 0, .int .i64 0, .int .i64 0, .int .i64 0, .int .i64 0, .int .i64 0, .slice none 0 0]) 13 120 Try.underlying70 hi77 hy0 hy1 hy2 rfl (by decide) _ _ _ rfl (HO6.out.alloc _) ⟨w6.heap.size, 0, none⟩ 1 1 [.int .i64 xs.length, .int .i64 a0, .int .i64 a1, .int .i64 a2, .int .i64 a3, .int .i64 b0, .int .i64 b1, .int .i64 b2, .int .i64 b3, .int .i64 off, .int .i64 (k : Int), .int .i64 DT, .slice su cs.length cu] rfl rfl Hnew.out Hone.out (by unfold maxLen; omega) (by omega) Hsz6.out ?_); intro v9 w9 hown9 hgrow9 hnil9 hat9; obtain ⟨g9, c9, rfl, hg9⟩ := own_g hown9 (by omega); have HO9 := hide hown9; have HG9 := hide hgrow9; clear hown9 hgrow9 hnil9 hat9)
            have BEL : Bel w w9 := Below.grown ((XM.out.trans X6.out).alloc _ _).bl HG9.out Hsz6.out (fun j hj => (HOwn.out.lt j hj).1)
            have HBEL := hide BEL
            clear BEL
            go_roundw
            · refine Or.inr ⟨by go_num, hG.out, ?_, g9, c9, .slice su cs.length cu, rfl, ?_, fun j x hj => ?_⟩
              · exact HBEL.out
              · rw [hsk.out]
                exact CVw.out.keep HBEL.out
              · rw [hsk.out, HC.out] at hj
                have hjl := (List.getElem?_eq_some_iff.1 hj).1
                exact (HO9.out.cellAt j (by simpa using hjl)).trans (by simpa using hj)
            · simp [intOf]
        · have hdv : (dcValidV xs sv off) = false := dcValidV_f hv
          have hno : Hid (openL ss k xs sv off = 2) := by show openL ss k xs sv off = 2; rw [ho.out, if_neg (hbadv.out hv)]
          clear hv
          go_wp2_with fail
          refine hfix.out.mono ?_
          rintro e w4 ⟨A, rfl, _, ⟨a0, a1, a2, a3, a4, a5, a6, a7, a8, a9, rfl⟩, x4⟩
          rw [hdv]
          go_wp2
          refine bodyPost_ret (results_tmp2 rfl _ _ _) rfl ?_
          unfold OpenOk
          rw [hno.out]
          exact ⟨_, rfl, (((XM.out.trans XAB.out).trans x4).alloc _ _).bl, Or.inl ⟨by omega, rfl⟩⟩
      · go_wp2
        obtain ⟨hG, hB, hR⟩ := hD
        obtain ⟨g, cap', u, rfl, hR⟩ := hR
        refine bodyPost_ret (results_tmp2 rfl _ _ _) rfl ?_
        unfold OpenOk
        rw [ho.out, if_pos hG]
        exact ⟨_, rfl, hB, Or.inr ⟨rfl, g, cap', u, rfl, hR⟩⟩
end Go.Proofs.Ytanbgpmbccianaa
