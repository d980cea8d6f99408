import Derived.Test.YtanbgpmbccianaaRImplRd
import Derived.Deep.RegionHeld3
import Derived.Test.YtanbgpmbccianaaDDr
import Derived.Test.YtanbgpmbccianaaM11
import Derived.Deep.AppendLies
import Derived.Test.YtanbgpmbccianaaM9
namespace Go.Proofs.Ytanbgpmbccianaa
open Go.ChangeShapes Go.RowKit FL
set_option linter.unusedSimpArgs false
set_option linter.unusedVariables false

set_option maxRecDepth 100000 in
set_option maxHeartbeats 1000000 in
theorem lwFloat0 (w : World) : Calls Try.prog 35 #[.float .f64 0, .float .f64 0] w fun e w' => e = .returned (.bool true) ∧ w' = w := by
  have q1 := fun w => run_float_arith (P := Try.prog) w .quo 37 .f64 4607182418800017408 0 9218868437227405312 (by decide)
  have l1 : flt 0 9218868437227405312 = true := by decide
  have ea : feq 0 0 = true := by decide
  have l2 : flt 9218868437227405312 0 = false := by decide
  go_enter Try.func35, Try.ntmps35
  go_wp2
  go_ret
  exact ⟨rfl, rfl⟩

set_option maxRecDepth 100000 in
set_option maxHeartbeats 1000000 in
theorem lwCell0 (w : World) (a : Int) :
    Calls Try.prog 28 #[.agg #[.int .i64 a, .float .f64 0, .float .f64 0], .agg #[.int .i64 a, .float .f64 0, .float .f64 0]] w fun e w' => e = .returned (.bool true) ∧ Ext w w' := by
  have x0 : Hid (Ext w ((w.alloc (.cells #[.int .i64 a, .float .f64 0, .float .f64 0] 39)).alloc (.cells #[.int .i64 a, .float .f64 0, .float .f64 0] 39))) := ((Ext.refl w).alloc _ _).alloc _ _
  have c1 := hide (fun W => lwFloat0 W)
  go_enter Try.func28, Try.ntmps28
  go_wp2_with fail
  refine (c1.out _).mono ?_
  rintro e w1 ⟨rfl, rfl⟩
  go_wp2_with fail
  refine (c1.out _).mono ?_
  rintro e w2 ⟨rfl, rfl⟩
  go_wp2
  go_ret
  exact ⟨rfl, x0.out⟩

set_option maxRecDepth 100000 in
set_option maxHeartbeats 1000000 in
/-- Two rows of the same cells without a fraction. -/
theorem lwCells_same {w : World} {v u : Value} {cs : List C3} (h : CV w v cs) (g : CV w u cs) (hg : ∀ k, k < cs.length → (cs.getD k k0).2 = (0, 0)) (hl : cs.length ≤ 1048576) :
    Calls Try.prog 10 #[v, u] w fun e w' => e = .returned (.bool true) ∧ Ext w w' := by
  obtain ⟨sa, cap, rfl, hx⟩ := h
  obtain ⟨ta, dap, rfl, hy⟩ := g
  have HX := hide hx
  have HY := hide hy
  have HG := hide hg
  clear hx hy hg
  go_enter Try.func10, Try.ntmps10
  go_wp2
  go_loopw [5] (fun i wr => ∃ k : Nat, i = .int .i64 k ∧ k ≤ cs.length ∧ Ext w wr) (fun i _ => cs.length - (intOf i).toNat)
  case atStart => exact ⟨0, rfl, by omega, Ext.refl w⟩
  case round =>
    obtain ⟨k, rfl, hk, hw⟩ := hrel
    have HW := hide hw
    clear hw
    by_cases hlt : k < cs.length
    · rcases HX.out with h0 | ⟨b, off, rfl, hrow⟩
      · rw [h0] at hlt; simp at hlt
      rcases HY.out with h0 | ⟨b2, off2, rfl, hrow2⟩
      · rw [h0] at hlt; simp at hlt
      have hgk := HG.out k hlt
      have q0 := HW.out.box (hrow k hlt).1
      have q1 := HW.out.box (hrow k hlt).2.1
      have q2 := HW.out.box (hrow k hlt).2.2
      have r0 := HW.out.box (hrow2 k hlt).1
      have r1 := HW.out.box (hrow2 k hlt).2.1
      have r2 := HW.out.box (hrow2 k hlt).2.2
      rw [hgk] at q1 q2 r1 r2
      have hk0 : (0 : Int) ≤ (k : Int) := Int.natCast_nonneg _
      have hk1 : (k : Int) < (cs.length : Int) := by omega
      generalize (cs.getD k k0).1 = A at q0 r0
      clear hrow hrow2 hgk
      have SA : Hid ((fun w' => w'.cell? ⟨b, off + k * 3, none⟩ = some (.int .i64 A) ∧ w'.cell? ⟨b, off + k * 3 + 1, none⟩ = some (.float .f64 0) ∧ w'.cell? ⟨b, off + k * 3 + 2, none⟩ = some (.float .f64 0) ∧ w'.cell? ⟨b2, off2 + k * 3, none⟩ = some (.int .i64 A) ∧ w'.cell? ⟨b2, off2 + k * 3 + 1, none⟩ = some (.float .f64 0) ∧ w'.cell? ⟨b2, off2 + k * 3 + 2, none⟩ = some (.float .f64 0)) wr.drew) := ⟨q0, q1, q2, r0, r1, r2⟩
      go_wp2_with fail
      go_region_held3 (fun w' => w'.cell? ⟨b, off + k * 3, none⟩ = some (.int .i64 A) ∧ w'.cell? ⟨b, off + k * 3 + 1, none⟩ = some (.float .f64 0) ∧ w'.cell? ⟨b, off + k * 3 + 2, none⟩ = some (.float .f64 0) ∧ w'.cell? ⟨b2, off2 + k * 3, none⟩ = some (.int .i64 A) ∧ w'.cell? ⟨b2, off2 + k * 3 + 1, none⟩ = some (.float .f64 0) ∧ w'.cell? ⟨b2, off2 + k * 3 + 2, none⟩ = some (.float .f64 0)) (first | with_reducible exact SA.out | with_reducible exact SB'.out | exact SA.out | exact SB'.out | fail) (first | (go_at_call 28; refine (lwCell0 _ A).mono ?_; rintro e w2 ⟨rfl, x2⟩; have HW2 := hide (HW.out.drew.trans x2); have SB' : Hid ((fun w' => w'.cell? ⟨b, off + k * 3, none⟩ = some (.int .i64 A) ∧ w'.cell? ⟨b, off + k * 3 + 1, none⟩ = some (.float .f64 0) ∧ w'.cell? ⟨b, off + k * 3 + 2, none⟩ = some (.float .f64 0) ∧ w'.cell? ⟨b2, off2 + k * 3, none⟩ = some (.int .i64 A) ∧ w'.cell? ⟨b2, off2 + k * 3 + 1, none⟩ = some (.float .f64 0) ∧ w'.cell? ⟨b2, off2 + k * 3 + 2, none⟩ = some (.float .f64 0)) w2) := ⟨x2.box q0, x2.box q1, x2.box q2, x2.box r0, x2.box r1, x2.box r2⟩; clear x2) | fail)
      go_wp2
      go_roundw
      · exact ⟨k + 1, by go_num, by omega, HW2.out⟩
      · simp [intOf]; omega
    · have hkk : k = cs.length := by omega
      subst hkk
      go_wp2
      go_ret
      exact ⟨rfl, HW.out⟩
end Go.Proofs.Ytanbgpmbccianaa
namespace Go.Proofs.Ytanbgpmbccianaa
open Go.ChangeShapes Go.RowKit FL
set_option linter.unusedSimpArgs false
set_option linter.unusedVariables false

def RdRel (w2 : World) (g0 : Nat) (f : Int → C3) (L : List Int) (o i : Value) (wr : World) : Prop := ∃ m : Nat, i = .int .i64 m ∧ m ≤ L.length ∧ wr.ownsRow g0 39 3 o m (flat ((L.take m).map f)) ∧ (o.ownBlock = some g0 ∨ ∃ k, o.ownBlock = some k ∧ w2.heap.size ≤ k) ∧ w2.grownBy wr (some g0)
theorem take_more (f : Int → C3) (L : List Int) (m : Nat) (hm : m < L.length) : (L.take (m + 1)).map f = (L.take m).map f ++ [f (L.getD m 0)] := by
  rw [List.take_add_one, List.map_append, List.getD_eq_getElem?_getD, List.getElem?_eq_getElem hm]
  rfl

end Go.Proofs.Ytanbgpmbccianaa
namespace Go.Proofs.Ytanbgpmbccianaa
open Go.ChangeShapes Go.RowKit FL
set_option linter.unusedSimpArgs false
set_option linter.unusedVariables false
theorem readA_yes {ss : List St} {st : Int} {xs sv : List Int} {off : Int} (h : vHeap ss = true) (g : GoodA ss st xs sv off) : readA ss st xs sv off = readL ss st xs sv off := if_pos ⟨h, g⟩
theorem readA_no {ss : List St} {st : Int} {xs sv : List Int} {off : Int} (h : ¬ (vHeap ss = true ∧ GoodA ss st xs sv off)) : readA ss st xs sv off = [] := if_neg h

set_option maxRecDepth 100000 in
set_option maxHeartbeats 2000000 in
theorem iRd_any {w : World} {v vS vT : Value} {ss : List St} {xs sv : List Int} (h : SV w v ss) (hg : SG ss) (hl : SL ss 1048576) (st : Int) (hS : Ints w vS xs) (hT : Ints w vT sv) (off : Int) (lx : xs.length ≤ 1048576) (ls : sv.length ≤ 1048576) :
    Calls Try.prog 7 #[.agg #[v], .agg #[.int .i64 st, vS, vT, .int .i64 off]] w fun e w' => CellsOk w (readA ss st xs sv off) e w' := by
  obtain ⟨sa, cap, rfl, hx⟩ := h
  have h : SV w (.slice sa ss.length cap) ss := ⟨sa, cap, rfl, hx⟩
  have x0 : Ext w (((w.alloc (.cells #[.slice sa ss.length cap] 36)).alloc (.cells #[.int .i64 st, vS, vT, .int .i64 off] 42)).alloc (.cells #[.int .i64 st, vS, vT, .int .i64 off] 42)) := (((Ext.refl w).alloc _ _).alloc _ _).alloc _ _
  have n3 := fun j => new_cell ((w.alloc (.cells #[.slice sa ss.length cap] 36)).alloc (.cells #[.int .i64 st, vS, vT, .int .i64 off] 42)) #[.int .i64 st, vS, vT, .int .i64 off] 42 (w.heap.size + 1 + 1) (by simp) j
  have ho := hide (open_any (ga := w.heap.size + 1 + 1) (oa := 0) (h.keep x0.bl) hg hl st (hS.ext x0) (hT.ext x0) off lx ls (n3 0) (n3 1) (n3 2) (n3 3))
  have X0 := hide x0
  clear hx h x0 n3
  obtain ⟨s1, d1, rfl, _⟩ := hS
  obtain ⟨s2, d2, rfl, _⟩ := hT
  go_enter Try.func7, Try.ntmps7
  go_wp2_with fail
  refine ho.out.mono ?_
  rintro e w1 ⟨v1, rfl, x1, hv⟩
  have X1 := hide (Bel.tr X0.out.bl x1)
  clear ho X0 x1
  rcases hv with ⟨hne, rfl⟩ | ⟨he, g, gcap, u, rfl, hcv, hcell⟩
  · have HR : Hid (readA ss st xs sv off = []) := readA_no (fun q => hne (by unfold openL; rw [if_pos q.1, if_pos q.2]))
    generalize openL ss st xs sv off = C at hne ⊢
    have hne' : (C == 0) = false := by simp [hne]
    have hne2 : (C != 0) = true := by simp [hne]
    go_wp2
    go_ret
    exact cells_nil HR.out _ _ (Bel.tr X1.out ((Ext.refl w1).alloc _ _).bl)
  · have hV : vHeap ss = true ∧ GoodA ss st xs sv off := by
      unfold openL at he
      by_cases h1 : vHeap ss = true
      · rw [if_pos h1] at he
        by_cases h2 : GoodA ss st xs sv off
        · exact ⟨h1, h2⟩
        · rw [if_neg h2] at he; omega
      · rw [if_neg h1] at he; omega
    have HR := hide (readA_yes hV.1 hV.2)
    rw [he]
    obtain ⟨su, cu, rfl, hcx⟩ := hcv
    have hlc := hl.at st.toNat (by have := hV.2.1; omega)
    have Hrd := hide (callsIn_wide.1 (read_in 3 (Nat.le_refl _) xs sv off st (ss.getD st.toNat s0).1 (w := w1) (su := su) (cu := cu) (cs := (ss.getD st.toNat s0).2) ⟨su, cu, rfl, hcx⟩ hlc hV.2.2.1 hV.2.2.2))
    have f0 := hcell 0 _ rfl
    have f1 := hcell 1 _ rfl
    have f2 := hcell 2 _ rfl
    have f3 := hcell 3 _ rfl
    have f4 := hcell 4 _ rfl
    have f5 := hcell 5 _ rfl
    have f6 := hcell 6 _ rfl
    have f7 := hcell 7 _ rfl
    have f8 := hcell 8 _ rfl
    have f9 := hcell 9 _ rfl
    have f10 := hcell 10 _ rfl
    have f11 := hcell 11 _ rfl
    have f12 := hcell 12 _ rfl
    clear hcell hV he hcx
    have HL : Hid (readL ss st xs sv off = (offsL xs sv off).map fun p => (ss.getD st.toNat s0).2.getD p.toNat k0) := rfl
    generalize (ss.getD st.toNat s0).1 = DT at *
    generalize (ss.getD st.toNat s0).2 = cs at *
    generalize xs.getD 0 0 = a0 at *
    generalize xs.getD 1 0 = a1 at *
    generalize xs.getD 2 0 = a2 at *
    generalize xs.getD 3 0 = a3 at *
    generalize sv.getD 0 0 = b0 at *
    generalize sv.getD 1 0 = b1 at *
    generalize sv.getD 2 0 = b2 at *
    generalize sv.getD 3 0 = b3 at *
    go_wp2_with fail
    refine Hrd.out.mono ?_
    intro e w2 hok
    obtain ⟨sa2, cap2, rfl, hok2⟩ := hok
    go_wp2
    go_ret
    rw [HR.out, HL.out]
    exact CellsOk.from X1.out ⟨sa2, cap2, by rw [List.length_map]; rfl, hok2⟩
end Go.Proofs.Ytanbgpmbccianaa
namespace Go.Proofs.Ytanbgpmbccianaa
set_option linter.unusedSimpArgs false
set_option linter.unusedVariables false

theorem ups_add (off : Int) (a : Nat) : ∀ b : Nat, ups off (a + b) = ups off a ++ ups (off + (a : Int)) b
  | 0 => by simp [ups]
  | b + 1 => by
    rw [← Nat.add_assoc, ups_succ, ups_succ, ups_add off a b, List.append_assoc]
    congr 3
    push_cast
    omega
theorem ups_blocks (off : Int) (b : Nat) : ∀ a : Nat, ((List.range a).flatMap fun i : Nat => ups (off + (i : Int) * (b : Int)) b) = ups off (a * b)
  | 0 => by simp [ups]
  | a + 1 => by
    rw [List.range_succ, List.flatMap_append, ups_blocks off b a, Nat.succ_mul, ups_add]
    simp
theorem pos_prod : ∀ (xs : List Int), (∀ n ∈ xs, 1 ≤ n) → 1 ≤ prod xs := fun xs h => by
  rw [prod_plen (fun n hn => by have := h n hn; omega)]
  have := plen_pos xs h
  omega
theorem rmS_cons (n : Int) (ns : List Int) (h : ∀ m ∈ n :: ns, 1 ≤ m) : rmS (n :: ns) = prod ns :: rmS ns := by
  have h1 := pos_prod _ h
  have h2 := pos_prod ns (fun m hm => h m (by simp [hm]))
  unfold rmS
  rw [List.length_cons, List.range_succ_eq_map, List.map_cons, List.map_map, if_neg (by omega)]
  congr 1
  refine List.map_congr_left fun i _ => ?_
  show (if prod (n :: ns) = 0 then 0 else prod ((n :: ns).drop (i + 1 + 1))) = _
  rw [if_neg (by omega), if_neg (by omega), List.drop_succ_cons]
theorem places_rm : ∀ (xs : List Int) (off : Int), (∀ n ∈ xs, 1 ≤ n) → places xs (rmS xs) off = ups off (plen xs)
  | [], off, _ => by simp [places, ups, plen]
  | n :: ns, off, h => by
    have h' : ∀ m ∈ ns, 1 ≤ m := fun m hm => h m (by simp [hm])
    rw [rmS_cons n ns h, prod_plen (fun m hm => by have := h' m hm; omega)]
    show ((List.range n.toNat).flatMap fun i : Nat => places ns (rmS ns) (off + (i : Int) * (plen ns : Int))) = ups off (n.toNat * plen ns)
    rw [← ups_blocks]
    refine congrArg (fun f => List.flatMap f (List.range n.toNat)) (funext fun i => ?_)
    exact places_rm ns _ h'
theorem good_nn {xs : List Int} (h : Good xs) : ∀ n ∈ xs, 0 ≤ n := fun n hn => by
  obtain ⟨j, hj, e⟩ := getD_mem hn
  rw [← e]
  exact (h.2.1 j hj).1
/-- A reshaped view has the same places in the same order, and is valid. -/
theorem rs_offs {xs ss ys : List Int} {off : Int} {L S : List Int} {o : Int} (h : rsL xs ss off ys = (0, L, S, o)) : L = ys ∧ ValidV xs ss off ∧ ValidV L S o ∧ offsL L S o = offsL xs ss off ∧ prod L = prod xs := by
  unfold rsL at h
  split at h
  · next hv =>
    split at h
    · next ha =>
      split at h
      · next hu =>
        simp only [Prod.mk.injEq] at h
        obtain ⟨_, rfl, rfl, rfl⟩ := h
        have hO : offsL ys (rmS ys) off = offsL xs ss off := by
          by_cases hz : prod xs = 0
          · unfold offsL; rw [if_pos hz, if_pos (ha.2.trans hz)]
          · have hz' : prod ys ≠ 0 := fun e => hz (ha.2.symm.trans e)
            rw [hu]
            have e1 : offsL xs ss off = places xs ss off := if_neg hz
            have e2 : offsL ys (rmS ys) off = places ys (rmS ys) off := if_neg hz'
            have e3 : plen ys = plen xs := by
              have a := prod_plen (good_nn ha.1)
              have b := prod_plen (good_nn hv.1)
              have := ha.2
              omega
            rw [e2, places_rm ys off (prod_pos_of ha.1.2.1 hz'), e1, places_len xs ss off hv.2.1.symm, e3]
        refine ⟨rfl, hv, ⟨ha.1, rmS_len _, hv.2.2.1, rmS_inS ha.1, ?_⟩, hO, ha.2⟩
        by_cases hz : prod ys = 0
        · exact Or.inl hz
        · refine Or.inr ((all_in ys (rmS ys) off (rmS_len _).symm (prod_pos_of ha.1.2.1 hz)).1 fun p hp => offs_in hv p ?_)
          rw [← hO]
          unfold offsL
          rw [if_neg hz]
          exact hp
      · simp only [Prod.mk.injEq] at h; exact absurd h.1 (by decide)
    · simp only [Prod.mk.injEq] at h; exact absurd h.1 (by decide)
  · simp only [Prod.mk.injEq] at h; exact absurd h.1 (by decide)
end Go.Proofs.Ytanbgpmbccianaa
namespace Go.Proofs.Ytanbgpmbccianaa
open Go.ChangeShapes Go.RowKit FL
set_option linter.unusedSimpArgs false
set_option linter.unusedVariables false
theorem IntsB.mono {w : World} {lo hi lo2 hi2 : Nat} {v : Value} {L : List Int} (h : IntsB w lo hi v L) (h1 : lo2 ≤ lo) (h2 : hi ≤ hi2) : IntsB w lo2 hi2 v L := by
  obtain ⟨sa, cap, e, h⟩ := h
  exact ⟨sa, cap, e, h.imp id (fun ⟨b, o, q1, q2, q3, q4⟩ => ⟨b, o, q1, by omega, by omega, q4⟩)⟩
/-- A list that does not lie in block R. -/
def Off (W : World) (R : Nat) (v : Value) (L : List Int) : Prop := ∃ lo hi, IntsB W lo hi v L ∧ (R < lo ∨ hi ≤ R)
theorem Off.ints {W : World} {R : Nat} {v : Value} {L : List Int} (h : Off W R v L) : Ints W v L := by obtain ⟨_, _, h, _⟩ := h; exact h.ints
theorem Off.keep {W W' : World} {R : Nat} {v : Value} {L : List Int} (h : Off W R v L) (x : Bel W W') : Off W' R v L := by obtain ⟨lo, hi, h, q⟩ := h; exact ⟨lo, hi, h.keep x, q⟩
theorem Off.mut {W W' : World} {R : Nat} {v : Value} {L : List Int} (h : Off W R v L) (m : Mut R W W') : Off W' R v L := by obtain ⟨lo, hi, h, q⟩ := h; exact ⟨lo, hi, h.mut m q, q⟩
theorem Ints.ib {W : World} {v : Value} {L : List Int} (h : Ints W v L) : IntsB W 0 W.heap.size v L := by
  obtain ⟨sa, cap, rfl, h⟩ := h
  refine ⟨sa, cap, rfl, ?_⟩
  rcases h with h | ⟨b, o, h1, h2⟩
  · exact Or.inl h
  · by_cases e : L = []
    · exact Or.inl e
    · exact Or.inr ⟨b, o, h1, Nat.zero_le _, cell_lt (h2 0 (List.length_pos_iff.2 e)), h2⟩
/-- v and r in their boxes. -/
structure LV0 (w W : World) (BV BR : Nat) (vS vT : Value) (xs ss : List Int) (off c : Int) (rA rB : Value) (ro : Int) : Prop where
  v0 : W.cell? ⟨BV, 0, none⟩ = some vS
  v1 : W.cell? ⟨BV, 1, none⟩ = some vT
  v2 : W.cell? ⟨BV, 2, none⟩ = some (.int .i64 off)
  vf : ∀ o, W.frozen? ⟨BV, o, none⟩ = false
  q0 : W.cell? ⟨BR, 0, none⟩ = some (.int .i64 c)
  q1 : W.cell? ⟨BR, 1, none⟩ = some rA
  q2 : W.cell? ⟨BR, 2, none⟩ = some rB
  q3 : W.cell? ⟨BR, 3, none⟩ = some (.int .i64 ro)
  qf : ∀ o, W.frozen? ⟨BR, o, none⟩ = false
  iS : Off W BR vS xs
  iT : Off W BR vT ss
  bl : Bel w W
  hV : w.heap.size ≤ BV
  hR : w.heap.size ≤ BR
  ne : BV ≠ BR
structure LV (w W : World) (BV BR : Nat) (vS vT : Value) (xs ss : List Int) (off c : Int) (rA rB : Value) (L S : List Int) (ro : Int) : Prop where
  l : LV0 w W BV BR vS vT xs ss off c rA rB ro
  iA : Ints W rA L
  iB : Ints W rB S
theorem fz_keep {W W' : World} {B : Nat} (x : Bel W W') (hB : B < W.heap.size) (h : ∀ o, W.frozen? ⟨B, o, none⟩ = false) : ∀ o, W'.frozen? ⟨B, o, none⟩ = false := fun o => (Below.frozen x (p := ⟨B, o, none⟩) hB).trans (h o)
theorem LV0.keep {w W W' : World} {BV BR : Nat} {vS vT : Value} {xs ss : List Int} {off c : Int} {rA rB : Value} {ro : Int} (h : LV0 w W BV BR vS vT xs ss off c rA rB ro) (x : Bel W W') : LV0 w W' BV BR vS vT xs ss off c rA rB ro :=
  ⟨x.box h.v0, x.box h.v1, x.box h.v2, fz_keep x (cell_lt h.v0) h.vf, x.box h.q0, x.box h.q1, x.box h.q2, x.box h.q3, fz_keep x (cell_lt h.q0) h.qf, h.iS.keep x, h.iT.keep x, Bel.tr h.bl x, h.hV, h.hR, h.ne⟩
theorem LV.keep {w W W' : World} {BV BR : Nat} {vS vT : Value} {xs ss : List Int} {off c : Int} {rA rB : Value} {L S : List Int} {ro : Int} (h : LV w W BV BR vS vT xs ss off c rA rB L S ro) (x : Bel W W') : LV w W' BV BR vS vT xs ss off c rA rB L S ro := ⟨h.l.keep x, h.iA.below x, h.iB.below x⟩
/-- The first time: both boxes are new. -/
theorem LV.make {w W1 W2 : World} {vS vT : Value} {xs ss : List Int} {off : Int} {c : Int} {rA rB : Value} {L S : List Int} {ro : Int} (b1 : Bel w W1) (hS : Ints W1 vS xs) (hT : Ints W1 vT ss) (x2 : Bel (W1.alloc (.cells #[vS, vT, .int .i64 off] 25)) W2) (hA : Ints W2 rA L) (hB : Ints W2 rB S) :
    LV w (W2.alloc (.cells #[.int .i64 c, rA, rB, .int .i64 ro] 29)) W1.heap.size W2.heap.size vS vT xs ss off c rA rB L S ro := by
  have n1 := fun j => new_cell W1 #[vS, vT, .int .i64 off] 25 W1.heap.size rfl j
  have y1 : Ext W1 (W1.alloc (.cells #[vS, vT, .int .i64 off] 25)) := (Ext.refl _).alloc _ _
  have n2 := fun j => new_cell W2 #[.int .i64 c, rA, rB, .int .i64 ro] 29 W2.heap.size rfl j
  have y2 : Ext W2 (W2.alloc (.cells #[.int .i64 c, rA, rB, .int .i64 ro] 29)) := (Ext.refl _).alloc _ _
  have x := Bel.tr x2 y2.bl
  have xx := Bel.tr y1.bl x
  have h1 := Below.size b1
  have h2 := Below.size x2
  have h3 : (W1.alloc (.cells #[vS, vT, .int .i64 off] 25)).heap.size = W1.heap.size + 1 := by simp
  exact ⟨⟨x.box (n1 0), x.box (n1 1), x.box (n1 2), fz_keep x (by rw [h3]; omega) (fun o => y1.unfrozen (Nat.le_refl _) o), n2 0, n2 1, n2 2, n2 3, fun o => y2.unfrozen (Nat.le_refl _) o, (show Off _ _ _ _ from ⟨0, W1.heap.size, hS.ib.keep xx, Or.inr (by omega)⟩), (show Off _ _ _ _ from ⟨0, W1.heap.size, hT.ib.keep xx, Or.inr (by omega)⟩), Bel.tr b1 xx, h1, by omega, by omega⟩, hA.below y2.bl, hB.below y2.bl⟩
/-- Another view lies in v. -/
theorem LV0.setV {w W W' : World} {BV BR : Nat} {vS vT vS' vT' : Value} {xs ss xs' ss' : List Int} {off off' c : Int} {rA rB : Value} {ro : Int} (h : LV0 w W BV BR vS vT xs ss off c rA rB ro) (x : Bel W W') (hS : IntsB W' W.heap.size W'.heap.size vS' xs') (hT : IntsB W' W.heap.size W'.heap.size vT' ss') :
    LV0 w (((W'.setCell ⟨BV, 0, none⟩ vS').setCell ⟨BV, 1, none⟩ vT').setCell ⟨BV, 2, none⟩ (.int .i64 off')) BV BR vS' vT' xs' ss' off' c rA rB ro := by
  have k := h.keep x
  have m : Mut BV W' (((W'.setCell ⟨BV, 0, none⟩ vS').setCell ⟨BV, 1, none⟩ vT').setCell ⟨BV, 2, none⟩ (.int .i64 off')) := (((Mut.refl _ _).setCell _ _).setCell _ _).setCell _ _
  have hlt := cell_lt h.v0
  have hltR := cell_lt h.q0
  have ne : BR ≠ BV := fun e => h.ne e.symm
  exact ⟨set3_0 k.v0, set3_1 k.v1, set3_2 k.v2, fun o => (m.fz _).trans (k.vf o), m.box ne k.q0, m.box ne k.q1, m.box ne k.q2, m.box ne k.q3, fun o => (m.fz _).trans (k.qf o), ⟨_, _, hS.mut m (Or.inl hlt), Or.inl hltR⟩, ⟨_, _, hT.mut m (Or.inl hlt), Or.inl hltR⟩, ((k.bl.setCell k.hV _).setCell k.hV _).setCell k.hV _, k.hV, k.hR, k.ne⟩
theorem two_ib {lo : Nat} {W : World} {v u : Value} {xs ss : List Int} (h : Two lo W v u xs ss) : IntsB W lo W.heap.size v xs ∧ IntsB W lo W.heap.size u ss := by
  obtain ⟨g, k, h1, h2, _, h4, h5, h6, h7, _⟩ := h
  exact ⟨h6.mono h1 h4, h7.mono h2 h5⟩
/-- The view is drawn again. -/
theorem LV.setV {w W W' : World} {BV BR : Nat} {vS vT vS' vT' : Value} {xs ss xs' ss' : List Int} {off off' c : Int} {rA rB : Value} {L S : List Int} {ro : Int} {lo hi : Nat} (h : LV w W BV BR vS vT xs ss off c rA rB L S ro) (hA : IntsB W lo hi rA L) (hB : IntsB W lo hi rB S) (hlo : BV < lo) (x : Bel W W') (hS : IntsB W' W.heap.size W'.heap.size vS' xs') (hT : IntsB W' W.heap.size W'.heap.size vT' ss') :
    LV w (((W'.setCell ⟨BV, 0, none⟩ vS').setCell ⟨BV, 1, none⟩ vT').setCell ⟨BV, 2, none⟩ (.int .i64 off')) BV BR vS' vT' xs' ss' off' c rA rB L S ro := by
  have m : Mut BV W' (((W'.setCell ⟨BV, 0, none⟩ vS').setCell ⟨BV, 1, none⟩ vT').setCell ⟨BV, 2, none⟩ (.int .i64 off')) := (((Mut.refl _ _).setCell _ _).setCell _ _).setCell _ _
  exact ⟨h.l.setV x hS hT, ((hA.keep x).mut m (Or.inl hlo)).ints, ((hB.keep x).mut m (Or.inl hlo)).ints⟩
end Go.Proofs.Ytanbgpmbccianaa
