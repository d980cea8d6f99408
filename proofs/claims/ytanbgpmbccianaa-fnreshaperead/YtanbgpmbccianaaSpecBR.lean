import Derived.Test.YtanbgpmbccianaaM4
import Derived.Deep.RegionLaw
namespace Go.Proofs.Ytanbgpmbccianaa
open Go.ChangeShapes Go.RowKit
set_option linter.unusedSimpArgs false
set_option linter.unusedVariables false

/-- The rounds of the loop. -/
def BRel (w : World) (B m : Nat) (vS vT : Value) (off : Int) (xs ss ys : List Int) (i : Value) (wr : World) : Prop :=
  ∃ (k : Nat) (vA vB : Value), i = .int .i64 k ∧ k ≤ ys.length ∧ Hid (∀ j, j < k → m ≤ j → (xs.getD (j - m) 0 = ys.getD j 0 ∨ xs.getD (j - m) 0 = 1)) ∧ BW w wr B vS vT off (ys.take k) ((bstr xs ss ys).take k) vA vB
theorem brel_step {w W : World} {B m : Nat} {vS vT : Value} {off : Int} {xs ss ys : List Int} {k : Nat} {vA vB : Value} {LA LB : List Int} {Y V : Int} (hk : k < ys.length)
    (hin : Hid (∀ j, j < k + 1 → m ≤ j → (xs.getD (j - m) 0 = ys.getD j 0 ∨ xs.getD (j - m) 0 = 1))) (hLA : ys.take k = LA) (hLB : (bstr xs ss ys).take k = LB) (hY : ys.getD k 0 = Y) (hV : (bstr xs ss ys).getD k 0 = V)
    (h : BW w W B vS vT off (LA ++ [Y]) (LB ++ [V]) vA vB) : BRel w B m vS vT off xs ss ys (.int .i64 ((k : Int) + 1)) W := by
  refine ⟨k + 1, vA, vB, by simp, by omega, hin, ?_⟩
  rw [take_snoc ys k hk, take_snoc (bstr xs ss ys) k (by rw [bstr_len]; exact hk), hY, hV, hLA, hLB]
  exact h
theorem cell_one_set (W : World) (p : Addr) (v x : Value) (t : TypeId) : ∀ j u, [x][j]? = some u → ((W.setCell p v).alloc (.cells #[x] t)).cell? ((⟨W.heap.size, 0, none⟩ : Addr).add j) = some u := by
  have e : (W.setCell p v).heap.size = W.heap.size := by simp [World.setCell]
  rw [← e]; exact cell_one_new _ _ _
theorem grown_drew {C w3 : World} {row : Option Nat} (h : C.drew.grownBy w3 row) : C.grownBy w3 row := ⟨h.os, h.tape, h.output, h.size, h.block⟩
theorem own_drew {C : World} {base e size n : Nat} {v : Value} {xs : List Value} (h : C.ownsRow base e size v n xs) : C.drew.ownsRow base e size v n xs := h
theorem new_drew {C : World} {ad : Addr} {L : List Value} (h : ∀ j u, L[j]? = some u → C.cell? (ad.add j) = some u) : ∀ j u, L[j]? = some u → C.drew.cell? (ad.add j) = some u := h
theorem vs_drew {w W : World} {c : Int} {L S : List Int} {o : Int} {e : Ending} (h : VSOw w c L S o e W) : VSOw w c L S o e W.drew := by
  obtain ⟨sa, sb, ca, cb, h1, h2, h3, hd, h4⟩ := h
  exact ⟨sa, sb, ca, cb, h1, own_drew h2, own_drew h3, hd, Bel.tr h4 (bel_drew _)⟩
theorem BW.keep {w wr W : World} {B : Nat} {vS vT : Value} {off : Int} {Ls Ss : List Int} {vA vB : Value} (h : BW w wr B vS vT off Ls Ss vA vB) (x : Bel wr W) : BW w W B vS vT off Ls Ss vA vB := by
  have fz : ∀ {b : Nat}, b < wr.heap.size → ∀ o, W.frozen? ⟨b, o, none⟩ = wr.frozen? ⟨b, o, none⟩ := fun hb o => Below.frozen x (p := ⟨_, o, none⟩) hb
  have hs := h.sz
  have hB := h.hB
  exact ⟨x.box h.p0, x.box h.p1, x.box h.r0, x.box h.r1, x.box h.r2, x.box h.r3, fun o => (fz (by omega) o).trans (h.rf o), x.box h.o0, x.box h.o1, x.box h.o2, fun o => (fz (by omega) o).trans (h.bf o), own_below h.ownA x (fun g hg => (h.ownA.lt g hg).2), own_below h.ownB x (fun g hg => (h.ownB.lt g hg).2), h.dj, Bel.tr h.bl x, Nat.le_trans hs (Below.size x), hB⟩
theorem BW.al0 {w wr : World} {B : Nat} {vS vT : Value} {off : Int} {Ls Ss : List Int} {vA vB : Value} (h : BW w wr B vS vT off Ls Ss vA vB) (x : Int) : (wr.alloc (.cells #[.int .i64 x] 2)).drew.cell? ⟨B, 0, none⟩ = some vA := ((Ext.refl wr).alloc #[.int .i64 x] 2).box h.o0
theorem BW.szD {w wr : World} {B : Nat} {vS vT : Value} {off : Int} {Ls Ss : List Int} {vA vB : Value} (h : BW w wr B vS vT off Ls Ss vA vB) (x : Int) : B + 1 ≤ (wr.alloc (.cells #[.int .i64 x] 2)).drew.heap.size := by
  have h1 : wr.heap.size ≤ (wr.alloc (.cells #[.int .i64 x] 2)).heap.size := Below.size ((Ext.refl wr).alloc #[.int .i64 x] 2).bl
  exact Nat.le_trans h.sz h1
theorem BW.oldA {w wr w3 : World} {B b o : Nat} {vS vT : Value} {off x y : Int} {Ls Ss : List Int} {vA vB : Value} (h : BW w wr B vS vT off Ls Ss vA vB) (hgrow : (wr.alloc (.cells #[.int .i64 x] 2)).grownBy w3 vA.ownBlock) {z : Int} (hc : w.cell? ⟨b, o, none⟩ = some (.int .i64 z)) (hz : z = y) : w3.cell? ⟨b, o, none⟩ = some (.int .i64 y) := by
  subst hz
  have hb := cell_lt hc
  have hs := h.sz
  have hB := h.hB
  have hA : ∀ g, vA.ownBlock = some g → B + 1 ≤ g := fun g hg => (h.ownA.lt g hg).1
  have hk : w3.heap[b]? = wr.heap[b]? := by
    rw [hgrow.block b (by simp; omega) (by intro e; have := hA b e.symm; omega)]
    exact ((Ext.refl wr).alloc #[.int .i64 x] 2).bl.block b (by omega)
  exact (World.cell?_of_block hk).trans (Bel.box h.bl hc)

theorem own_form2 {W : World} {base n : Nat} {v : Value} {L : List Value} (h : W.ownsRow base 2 1 v n L) : ∃ sa cap, v = .slice sa n cap := by
  rcases h.2 with ⟨h1, h2⟩ | ⟨g, cap, cur, h1, _⟩
  · exact ⟨none, 0, by rw [h1, h2]⟩
  · exact ⟨_, cap, h1⟩
theorem one_val (x : Int) : ∀ u ∈ [Value.int .i64 x], u.oneCell' = true := fun u hu => by simp at hu; subst hu; rfl
theorem BW.at3 {w wr w3 : World} {B : Nat} {vS vT : Value} {off x : Int} {Ls Ss : List Int} {vA vB : Value} (h : BW w wr B vS vT off Ls Ss vA vB) (hgrow : (wr.alloc (.cells #[.int .i64 x] 2)).grownBy w3 vA.ownBlock) :
    w3.cell? ⟨B, 0, none⟩ = some vA ∧ w3.cell? ⟨B, 1, none⟩ = some vB ∧ ∀ o, w3.frozen? ⟨B, o, none⟩ = false := by
  have hs := h.sz
  have hA : ∀ g, vA.ownBlock = some g → B + 1 ≤ g := fun g hg => (h.ownA.lt g hg).1
  have hk : w3.heap[B]? = wr.heap[B]? := by
    rw [hgrow.block B (by simp; omega) (by intro e; have := hA B e.symm; omega)]
    exact ((Ext.refl wr).alloc #[.int .i64 x] 2).bl.block B (by omega)
  exact ⟨(World.cell?_of_block hk).trans h.o0, (World.cell?_of_block hk).trans h.o1, fun o => (World.frozen?_of_block hk).trans (h.bf o)⟩
theorem BW.at3B {w wr w3 : World} {B : Nat} {vS vT : Value} {off x : Int} {Ls Ss : List Int} {vA vB : Value} (h : BW w wr B vS vT off Ls Ss vA vB) (hgrow : (wr.alloc (.cells #[.int .i64 x] 2)).grownBy w3 vB.ownBlock) :
    w3.cell? ⟨B, 0, none⟩ = some vA ∧ w3.cell? ⟨B, 1, none⟩ = some vB ∧ ∀ o, w3.frozen? ⟨B, o, none⟩ = false := by
  have hs := h.sz
  have hA : ∀ g, vB.ownBlock = some g → B + 1 ≤ g := fun g hg => (h.ownB.lt g hg).1
  have hk : w3.heap[B]? = wr.heap[B]? := by
    rw [hgrow.block B (by simp; omega) (by intro e; have := hA B e.symm; omega)]
    exact ((Ext.refl wr).alloc #[.int .i64 x] 2).bl.block B (by omega)
  exact ⟨(World.cell?_of_block hk).trans h.o0, (World.cell?_of_block hk).trans h.o1, fun o => (World.frozen?_of_block hk).trans (h.bf o)⟩

set_option maxRecDepth 100000 in
set_option maxHeartbeats 4000000 in
theorem sBR_own {w : World} {vS vT vP : Value} {xs ss ys : List Int} (hS : Ints w vS xs) (hT : Ints w vT ss) (hP : Ints w vP ys) (off : Int) (lx : xs.length ≤ 1048576) (ls : ss.length ≤ 1048576) (ly : ys.length ≤ 1048576) {c : Int} {L S : List Int} {o : Int} (hr : brL xs ss off ys = (c, L, S, o)) :
    Calls Try.prog 43 #[.agg #[vS, vT, .int .i64 off], vP] w fun e w' => VSOw w c L S o e w' := by
  obtain ⟨i0, hi0, hz0, hz1, hz2⟩ := info_parts info2
  have Hr := hide hr.symm
  clear hr
  have x0 : Ext w ((w.alloc (.cells #[vS, vT, .int .i64 off] 25)).alloc (.cells #[.int .i64 0, .slice none 0 0, .slice none 0 0, .int .i64 0] 29)) := ((Ext.refl w).alloc _ _).alloc _ _
  have y0 : Ext (w.alloc (.cells #[vS, vT, .int .i64 off] 25)) ((w.alloc (.cells #[vS, vT, .int .i64 off] 25)).alloc (.cells #[.int .i64 0, .slice none 0 0, .slice none 0 0, .int .i64 0] 29)) := (Ext.refl _).alloc _ _
  have n1 := fun j => new_cell w #[vS, vT, .int .i64 off] 25 w.heap.size rfl j
  have n2 := fun j => new_cell (w.alloc (.cells #[vS, vT, .int .i64 off] 25)) #[.int .i64 0, .slice none 0 0, .slice none 0 0, .int .i64 0] 29 (w.heap.size + 1) (by simp) j
  have k0 : ((w.alloc (.cells #[vS, vT, .int .i64 off] 25)).alloc (.cells #[.int .i64 0, .slice none 0 0, .slice none 0 0, .int .i64 0] 29)).cell? ⟨w.heap.size, 0, none⟩ = some vS := y0.box (n1 0)
  have k1 : ((w.alloc (.cells #[vS, vT, .int .i64 off] 25)).alloc (.cells #[.int .i64 0, .slice none 0 0, .slice none 0 0, .int .i64 0] 29)).cell? ⟨w.heap.size, 1, none⟩ = some vT := y0.box (n1 1)
  have k2 : ((w.alloc (.cells #[vS, vT, .int .i64 off] 25)).alloc (.cells #[.int .i64 0, .slice none 0 0, .slice none 0 0, .int .i64 0] 29)).cell? ⟨w.heap.size, 2, none⟩ = some (.int .i64 off) := y0.box (n1 2)
  have q0 : ((w.alloc (.cells #[vS, vT, .int .i64 off] 25)).alloc (.cells #[.int .i64 0, .slice none 0 0, .slice none 0 0, .int .i64 0] 29)).cell? ⟨w.heap.size + 1, 0, none⟩ = some (.int .i64 0) := n2 0
  have q1 : ((w.alloc (.cells #[vS, vT, .int .i64 off] 25)).alloc (.cells #[.int .i64 0, .slice none 0 0, .slice none 0 0, .int .i64 0] 29)).cell? ⟨w.heap.size + 1, 1, none⟩ = some (.slice none 0 0) := n2 1
  have q2 : ((w.alloc (.cells #[vS, vT, .int .i64 off] 25)).alloc (.cells #[.int .i64 0, .slice none 0 0, .slice none 0 0, .int .i64 0] 29)).cell? ⟨w.heap.size + 1, 2, none⟩ = some (.slice none 0 0) := n2 2
  have q3 : ((w.alloc (.cells #[vS, vT, .int .i64 off] 25)).alloc (.cells #[.int .i64 0, .slice none 0 0, .slice none 0 0, .int .i64 0] 29)).cell? ⟨w.heap.size + 1, 3, none⟩ = some (.int .i64 0) := n2 3
  have X0 := hide x0
  have HS := hide (hS.ext x0)
  have HT := hide (hT.ext x0)
  have HP := hide (hP.ext x0)
  have HS0 := hide hS
  have HT0 := hide hT
  have HP0 := hide hP
  obtain ⟨sa, ca, rfl, rS⟩ := hS
  obtain ⟨sb, cb, rfl, rT⟩ := hT
  obtain ⟨sp, cp, rfl, rP⟩ := hP
  have RS0 := hide rS
  have RT0 := hide rT
  have RP0 := hide rP
  clear x0 y0 n1 n2 rS rT rP
  go_enter Try.func43, Try.ntmps43
  go_wp2_with fail
  refine (sVV_any HS.out HT.out off lx ls).mono ?_
  rintro e w1 ⟨rfl, x1⟩
  have l0 := Bel.box x1 k0
  have l1 := Bel.box x1 k1
  have l2 := Bel.box x1 k2
  have r0 := Bel.box x1 q0
  have r1 := Bel.box x1 q1
  have r2 := Bel.box x1 q2
  have r3 := Bel.box x1 q3
  have rf : ∀ o, w1.frozen? ⟨w.heap.size + 1, o, none⟩ = false := fun o => (Below.frozen x1 (p := ⟨w.heap.size + 1, o, none⟩) (cell_lt q0)).trans (X0.out.unfrozen (b := w.heap.size + 1) (by omega) o)
  have B1 := hide (Bel.tr X0.out.bl x1)
  have HP1 := hide (HP.out.below x1)
  have sz1 : Hid (w.heap.size + 1 < w1.heap.size) := cell_lt r0
  clear x1 k0 k1 k2 q0 q1 q2 q3 X0 HS HT HP
  cases hv : (dcValidV xs ss off)
  · have hn := hide (Hr.out.trans (show brL xs ss off ys = (12, [], [], 0) from if_neg (of_decide_eq_false hv)))
    clear hv
    go_wp2
    exact bodyPost_ret (v := .agg #[.int .i64 12, .slice none 0 0, .slice none 0 0, .int .i64 0]) (by simp [results, Try.results43, go_sem, set4_0 r0, set4_1 r1, set4_2 r2, set4_3 r3]) rfl (vs_bad hn.out B1.out)
  have gv : ValidV xs ss off := of_decide_eq_true hv
  have hbr : Hid (brL xs ss off ys = (if Good ys ∧ Strs xs ys then (0, ys, bstr xs ss ys, off) else (6, [], [], 0))) := if_pos gv
  have hx4 := gv.1.1
  have Hl := hide gv.2.1
  clear gv hv
  by_cases hg : ¬ Good ys
  · have hn := hide (Hr.out.trans (hbr.out.trans (if_neg (fun q => hg q.1))))
    have hc := bad_cnt hg
    clear hg
    go_wp2_with fail
    refine (l2Count_any HP1.out (by omega)).mono ?_
    rintro e w' ⟨rfl, rfl⟩
    go_wp2
    exact bodyPost_ret (v := .agg #[.int .i64 6, .slice none 0 0, .slice none 0 0, .int .i64 0]) (by simp [results, Try.results43, go_sem, set4_0 r0, set4_1 r1, set4_2 r2, set4_3 r3]) rfl (vs_bad hn.out B1.out)
  have hg := Classical.not_not.1 hg
  have hc := good_cnt hg
  have hy4 := hg.1
  have Hg := hide hg
  clear hg
  by_cases hlt : (ys.length : Int) < (xs.length : Int)
  · have hn := hide (Hr.out.trans (hbr.out.trans (if_neg (fun q => by have := q.2.1; omega))))
    go_wp2_with fail
    refine (l2Count_any HP1.out (by omega)).mono ?_
    rintro e w' ⟨rfl, rfl⟩
    go_wp2
    exact bodyPost_ret (v := .agg #[.int .i64 6, .slice none 0 0, .slice none 0 0, .int .i64 0]) (by simp [results, Try.results43, go_sem, set4_0 r0, set4_1 r1, set4_2 r2, set4_3 r3]) rfl (vs_bad hn.out B1.out)
  obtain ⟨m, hm⟩ : ∃ m : Nat, ys.length - xs.length = m := ⟨_, rfl⟩
  have hmi : (ys.length : Int) - (xs.length : Int) = (m : Int) := by omega
  have hmy : Hid (ys.length = xs.length + m) := by show ys.length = xs.length + m; omega
  have Hm := hide hm
  clear hm
  have S0 := hide (BW.start (off := off) sz1.out B1.out l0 l1 r0 r1 r2 r3 rf)
  go_wp2_with fail
  refine (l2Count_any HP1.out (by omega)).mono ?_
  rintro e w' ⟨rfl, rfl⟩
  generalize cntL ys = cn at hc ⊢
  have t0 := S0.out.p0
  have t1 := S0.out.p1
  go_wp2_with fail
  try simp only [hmi]
  try simp only [show decide (cn < 0) = false from decide_eq_false (by omega), show decide (ys.length < xs.length) = false from decide_eq_false (by omega), Bool.or_self, Bool.or_false]
  have Hmi := hide hmi
  have Hlt := hide hlt
  clear hmi hlt t0 t1 l0 l1 l2 r0 r1 r2 r3 rf
  have hBB : Hid (w.heap.size + 1 < w'.heap.size) := sz1.out
  generalize hB : w'.heap.size = B at S0 hBB ⊢
  clear hB
  go_loopw [7] (fun i wr => BRel w B m (.slice sa xs.length ca) (.slice sb ss.length cb) off xs ss ys i wr) (fun i _ => ys.length - (intOf i).toNat)
  case atStart => exact ⟨0, _, _, rfl, by omega, fun j hj => absurd hj (Nat.not_lt_zero _), by simpa using S0.out⟩
  case round =>
    obtain ⟨k, vA, vB, rfl, hk, hin, hW⟩ := hrel
    have HW := hide hW
    clear hW
    by_cases hlt2 : k < ys.length
    · rcases RP0.out with h0 | ⟨bp, op, rfl, hrp⟩
      · rw [h0] at hlt2; simp at hlt2
      have qy := Bel.box HW.out.bl (hrp k hlt2)
      have hstr : (bstr xs ss ys).getD k 0 = strAt xs ss ys k := by rw [bstr_getD, if_pos hlt2]
      have hk0 : (0 : Int) ≤ (k : Int) := Int.natCast_nonneg _
      have hk1 : (k : Int) < (ys.length : Int) := by omega
      have hlA : (ys.take k).length = k := by rw [List.length_take]; omega
      have hlB : ((bstr xs ss ys).take k).length = k := by rw [List.length_take, bstr_len]; omega
      generalize hLA : ys.take k = LA at HW hlA
      generalize hLB : (bstr xs ss ys).take k = LB at HW hlB
      have HLA := hide hLA
      have HLB := hide hLB
      have hA4 : LA.length ≤ 4 := by omega
      have hB4 : LB.length ≤ 4 := by omega
      clear hLA hLB
      obtain ⟨s1, c1, rfl⟩ := own_form HW.out.ownA
      obtain ⟨s2, c2, rfl⟩ := own_form HW.out.ownB
      have HlA := hide hlA
      have HlB := hide hlB
      clear hlA hlB
      have p0 := HW.out.p0
      have p1 := HW.out.p1
      have o0 := HW.out.o0
      have o1 := HW.out.o1
      have bf := HW.out.bf
      generalize hY : ys.getD k 0 = Y at qy
      have HY := hide hY
      clear hY
      generalize hV : (bstr xs ss ys).getD k 0 = V at hstr
      have HV := hide hV
      clear hV
      by_cases hkm : (k : Int) < (m : Int)
      · have hV0 : V = 0 := by rw [hstr]; unfold strAt; rw [if_pos (by have := Hm.out; omega)]
        subst hV0
        have hin3 : Hid (∀ j, j < k + 1 → m ≤ j → (xs.getD (j - m) 0 = ys.getD j 0 ∨ xs.getD (j - m) 0 = 1)) := fun j h1 h2 => hin.out j (by omega) h2
        clear hstr
        have HD := hide HW.out
        have d0 : (wr.alloc (.cells #[.int .i64 Y] 2)).drew.cell? ⟨B, 0, none⟩ = some (.slice s1 LA.length c1) := HD.out.al0 Y
        have d2 : (wr.alloc (.cells #[.int .i64 Y] 2)).drew.cell? ⟨bp, op + k, none⟩ = some (.int .i64 Y) := Bel.box ((Ext.refl wr).alloc #[.int .i64 Y] 2).bl qy
        have d1 : wr.drew.cell? ⟨B, 0, none⟩ = some (.slice s1 LA.length c1) := o0
        have hM63 : LA.length + 1 ≤ maxLen := by unfold maxLen; omega
        have hM8 : (LA.length + 1) * 8 ≤ 140737488355328 := by omega
        have hone : 0 < 1 := Nat.one_pos
        go_wp2_with fail
        go_region_law (first | (refine step_append_at _ (by rfl) (.tmp 72) (.tmp 77) 23 (by rfl) (B + 1) 2 i0 (.int .i64 0) 1 8 Try.underlying23 hi0 hz0 hz1 hz2 rfl hone (.slice s1 LA.length c1) LA.length (LA.map (Value.int .i64)) (by rfl) (own_drew (HD.out.ownA.alloc _)) ⟨wr.heap.size, 0, none⟩ 1 1 [.int .i64 Y] (by rfl) rfl (new_drew (cell_one_new _ _ _)) (one_val _) hM63 hM8 (HD.out.szD Y) ?_; intro v3 w3 hown3 hgrow3 hat3; obtain ⟨s3, c3, rfl⟩ := own_form2 hown3; obtain ⟨b30, b31, b3f⟩ := HD.out.at3 (grown_drew hgrow3); have HSt1 := hide (HD.out.stepA Y hown3 (grown_drew hgrow3) hat3); have e1 := HSt1.out.o1; have e0 := HSt1.out.o0; have ef := HSt1.out.bf; clear hown3 hgrow3 hat3) | fail)
        all_goals go_wp2_with (first | (at_builtin; (refine wpList_append_own_at _ rfl _ _ 23 rfl (B + 1) 2 i0 (.int .i64 0) 1 8 Try.underlying23 hi0 hz0 hz1 hz2 rfl (by decide) _ _ _ rfl (HSt1.out.ownB.alloc _) ⟨w3.heap.size, 0, none⟩ 1 1 [.int .i64 0] rfl rfl (cell_one_set _ _ _ _ _) (one_val _) (by unfold maxLen; omega) (by omega) (by have := HSt1.out.sz; simp at this ⊢; omega) ?_); intro v5 w5 hown5 hgrow5 hnil5 hat5; obtain ⟨s5, c5, rfl⟩ := own_form2 hown5; obtain ⟨b50, b51, b5f⟩ := HSt1.out.at3B hgrow5; have HSt2 := hide (HSt1.out.stepB 0 hown5 hgrow5 hat5); clear hown5 hgrow5 hnil5 hat5) | fail)
        all_goals
          go_roundw
          · exact brel_step hlt2 hin3 HLA.out HLB.out HY.out HV.out HSt2.out
          · simp [intOf]; omega
      · obtain ⟨jj, hjj⟩ : ∃ jj : Nat, k - m = jj := ⟨_, rfl⟩
        have hji : (k : Int) - (m : Int) = (jj : Int) := by omega
        have hj0 : (0 : Int) ≤ (jj : Int) := Int.natCast_nonneg _
        have hjx : jj < xs.length := by have := hmy.out; omega
        have hj1 : (jj : Int) < (xs.length : Int) := by omega
        rcases RS0.out with h0 | ⟨bx, ox, rfl, hrx⟩
        · rw [h0] at hjx; simp at hjx
        have hjs : jj < ss.length := by have := Hl.out; omega
        have hj2 : (jj : Int) < (ss.length : Int) := by omega
        rcases RT0.out with h0 | ⟨bs, os, rfl, hrs⟩
        · rw [h0] at hjs; simp at hjs
        have qx := Bel.box HW.out.bl (hrx jj hjx)
        have qs := Bel.box HW.out.bl (hrs jj hjs)
        have hVx : V = if xs.getD jj 0 = Y then ss.getD jj 0 else 0 := by rw [hstr]; unfold strAt; rw [if_neg (by have := Hm.out; omega), Hm.out, hjj, HY.out]
        have hin3 : Hid ((xs.getD jj 0 = Y ∨ xs.getD jj 0 = 1) → ∀ j, j < k + 1 → m ≤ j → (xs.getD (j - m) 0 = ys.getD j 0 ∨ xs.getD (j - m) 0 = 1)) := fun q j h1 h2 => by
          by_cases e : j = k
          · subst e; rw [hjj, HY.out]; exact q
          · exact hin.out j (by omega) h2
        have hno : Hid (¬ (xs.getD jj 0 = Y ∨ xs.getD jj 0 = 1) → ¬ Strs xs ys) := fun q g => q (by
          have := g.2 jj hjx
          rw [Hm.out, show m + jj = k by omega, HY.out] at this
          exact this)
        clear hstr hrx hrs
        generalize xs.getD jj 0 = X at qx hVx hin3 hno
        generalize ss.getD jj 0 = Z at qs hVx
        have Hjj := hide hjj
        clear hjj
        by_cases hXY : Y = X
        · subst hXY
          rw [if_pos rfl] at hVx
          subst hVx
          have hin4 := hide (hin3.out (Or.inl rfl))
          clear hin3 hno
          go_wp2_with fail
          go_region
          have HD := hide (HW.out.keep (bel_drew wr))
          generalize hwd : wr.drew = wd at HD ⊢
          have qy : wd.cell? ⟨bp, op + k, none⟩ = some (.int .i64 Y) := by rw [← hwd]; exact qy
          have qs : wd.cell? ⟨bs, os + jj, none⟩ = some (.int .i64 V) := by rw [← hwd]; exact qs
          have p0 := HD.out.p0
          have p1 := HD.out.p1
          have o0 := HD.out.o0
          have o1 := HD.out.o1
          have bf := HD.out.bf
          clear hwd
          have d0 : (wd.alloc (.cells #[.int .i64 Y] 2)).drew.cell? ⟨B, 0, none⟩ = some (.slice s1 LA.length c1) := HD.out.al0 Y
          have d2 : (wd.alloc (.cells #[.int .i64 Y] 2)).drew.cell? ⟨bp, op + k, none⟩ = some (.int .i64 Y) := Bel.box ((Ext.refl wd).alloc #[.int .i64 Y] 2).bl qy
          have d1 : wd.drew.cell? ⟨B, 0, none⟩ = some (.slice s1 LA.length c1) := o0
          have hM63 : LA.length + 1 ≤ maxLen := by unfold maxLen; omega
          have hM8 : (LA.length + 1) * 8 ≤ 140737488355328 := by omega
          have hone : 0 < 1 := Nat.one_pos
          go_wp2_with fail
          go_region_law (first | (refine step_append_at _ (by rfl) (.tmp 72) (.tmp 77) 23 (by rfl) (B + 1) 2 i0 (.int .i64 0) 1 8 Try.underlying23 hi0 hz0 hz1 hz2 rfl hone (.slice s1 LA.length c1) LA.length (LA.map (Value.int .i64)) (by rfl) (own_drew (HD.out.ownA.alloc _)) ⟨wd.heap.size, 0, none⟩ 1 1 [.int .i64 Y] (by rfl) rfl (new_drew (cell_one_new _ _ _)) (one_val _) hM63 hM8 (HD.out.szD Y) ?_; intro v3 w3 hown3 hgrow3 hat3; obtain ⟨s3, c3, rfl⟩ := own_form2 hown3; obtain ⟨b30, b31, b3f⟩ := HD.out.at3 (grown_drew hgrow3); have HSt1 := hide (HD.out.stepA Y hown3 (grown_drew hgrow3) hat3); have e1 := HSt1.out.o1; have e0 := HSt1.out.o0; have ef := HSt1.out.bf; clear hown3 hgrow3 hat3) | fail)
          all_goals go_wp2_with (first | (at_builtin; (refine wpList_append_own_at _ rfl _ _ 23 rfl (B + 1) 2 i0 (.int .i64 0) 1 8 Try.underlying23 hi0 hz0 hz1 hz2 rfl (by decide) _ _ _ rfl (HSt1.out.ownB.alloc _) ⟨w3.heap.size, 0, none⟩ 1 1 [.int .i64 V] rfl rfl (cell_one_set _ _ _ _ _) (one_val _) (by unfold maxLen; omega) (by omega) (by have := HSt1.out.sz; simp at this ⊢; omega) ?_); intro v5 w5 hown5 hgrow5 hnil5 hat5; obtain ⟨s5, c5, rfl⟩ := own_form2 hown5; obtain ⟨b50, b51, b5f⟩ := HSt1.out.at3B hgrow5; have HSt2 := hide (HSt1.out.stepB V hown5 hgrow5 hat5); clear hown5 hgrow5 hnil5 hat5) | fail)
          all_goals
            go_roundw
            · exact brel_step hlt2 hin4 HLA.out HLB.out HY.out HV.out HSt2.out
            · simp [intOf]; omega
        · have hXY : ¬ X = Y := fun e => hXY e.symm
          have hne : (X == Y) = false := by simp [hXY]
          rw [if_neg hXY] at hVx
          subst hVx
          by_cases hX1 : X = 1
          · subst hX1
            have hin4 := hide (hin3.out (Or.inr rfl))
            clear hin3 hno hXY
            go_wp2_with fail
            go_region
            have HD := hide (HW.out.keep (bel_drew wr))
            generalize hwd : wr.drew = wd at HD ⊢
            have qy : wd.cell? ⟨bp, op + k, none⟩ = some (.int .i64 Y) := by rw [← hwd]; exact qy
            have qx : wd.cell? ⟨bx, ox + jj, none⟩ = some (.int .i64 1) := by rw [← hwd]; exact qx
            have p0 := HD.out.p0
            have p1 := HD.out.p1
            have o0 := HD.out.o0
            have o1 := HD.out.o1
            have bf := HD.out.bf
            clear hwd
            have d0 : (wd.alloc (.cells #[.int .i64 Y] 2)).drew.cell? ⟨B, 0, none⟩ = some (.slice s1 LA.length c1) := HD.out.al0 Y
            have d2 : (wd.alloc (.cells #[.int .i64 Y] 2)).drew.cell? ⟨bp, op + k, none⟩ = some (.int .i64 Y) := Bel.box ((Ext.refl wd).alloc #[.int .i64 Y] 2).bl qy
            have d1 : wd.drew.cell? ⟨B, 0, none⟩ = some (.slice s1 LA.length c1) := o0
            have hM63 : LA.length + 1 ≤ maxLen := by unfold maxLen; omega
            have hM8 : (LA.length + 1) * 8 ≤ 140737488355328 := by omega
            have hone : 0 < 1 := Nat.one_pos
            go_wp2_with fail
            go_region_law (first | (refine step_append_at _ (by rfl) (.tmp 72) (.tmp 77) 23 (by rfl) (B + 1) 2 i0 (.int .i64 0) 1 8 Try.underlying23 hi0 hz0 hz1 hz2 rfl hone (.slice s1 LA.length c1) LA.length (LA.map (Value.int .i64)) (by rfl) (own_drew (HD.out.ownA.alloc _)) ⟨wd.heap.size, 0, none⟩ 1 1 [.int .i64 Y] (by rfl) rfl (new_drew (cell_one_new _ _ _)) (one_val _) hM63 hM8 (HD.out.szD Y) ?_; intro v3 w3 hown3 hgrow3 hat3; obtain ⟨s3, c3, rfl⟩ := own_form2 hown3; obtain ⟨b30, b31, b3f⟩ := HD.out.at3 (grown_drew hgrow3); have HSt1 := hide (HD.out.stepA Y hown3 (grown_drew hgrow3) hat3); have e1 := HSt1.out.o1; have e0 := HSt1.out.o0; have ef := HSt1.out.bf; clear hown3 hgrow3 hat3) | fail)
            all_goals go_wp2_with (first | (at_builtin; (refine wpList_append_own_at _ rfl _ _ 23 rfl (B + 1) 2 i0 (.int .i64 0) 1 8 Try.underlying23 hi0 hz0 hz1 hz2 rfl (by decide) _ _ _ rfl (HSt1.out.ownB.alloc _) ⟨w3.heap.size, 0, none⟩ 1 1 [.int .i64 0] rfl rfl (cell_one_set _ _ _ _ _) (one_val _) (by unfold maxLen; omega) (by omega) (by have := HSt1.out.sz; simp at this ⊢; omega) ?_); intro v5 w5 hown5 hgrow5 hnil5 hat5; obtain ⟨s5, c5, rfl⟩ := own_form2 hown5; obtain ⟨b50, b51, b5f⟩ := HSt1.out.at3B hgrow5; have HSt2 := hide (HSt1.out.stepB 0 hown5 hgrow5 hat5); clear hown5 hgrow5 hnil5 hat5) | fail)
            all_goals
              go_roundw
              · exact brel_step hlt2 hin4 HLA.out HLB.out HY.out HV.out HSt2.out
              · simp [intOf]; omega
          · have hne1 : (X != 1) = true := by simp [hX1]
            have Hno := hide (hno.out (fun q => q.elim hXY hX1))
            have hn := hide (Hr.out.trans (hbr.out.trans (if_neg (fun q => Hno.out q.2))))
            have r0 := HW.out.r0
            have r1 := HW.out.r1
            have r2 := HW.out.r2
            have r3 := HW.out.r3
            have rf := HW.out.rf
            clear hin3 hno hXY hX1
            go_wp2_with fail
            go_region
            all_goals skip
            all_goals go_wp2
            all_goals exact bodyPost_ret (v := .agg #[.int .i64 6, .slice none 0 0, .slice none 0 0, .int .i64 0]) (by simp [results, Try.results43, go_sem, set4_0 r0, set4_1 r1, set4_2 r2, set4_3 r3]) rfl (vs_drew (vs_bad hn.out HW.out.bl))
    · have hkk : k = ys.length := by omega
      subst hkk
      have hst : Strs xs ys := ⟨by have := Hlt.out; omega, fun j hj => by
        have := hin.out (m + j) (by have := hmy.out; omega) (by omega)
        rw [show m + j - m = j by omega] at this
        rw [Hm.out]; exact this⟩
      have hn := hide (Hr.out.trans (hbr.out.trans (if_pos ⟨Hg.out, hst⟩)))
      have hW1 := HW.out
      rw [List.take_length, List.take_of_length_le (by rw [bstr_len]; omega)] at hW1
      obtain ⟨s1, c1, rfl⟩ := own_form hW1.ownA
      obtain ⟨s2, c2, rfl⟩ := own_form hW1.ownB
      have HW1 := hide hW1
      clear hW1 HW hst
      generalize hb : bstr xs ss ys = bs at HW1 hn
      have o0 := HW1.out.o0
      have o1 := HW1.out.o1
      have o2 := HW1.out.o2
      have r0 := HW1.out.r0
      have r1 := HW1.out.r1
      have r2 := HW1.out.r2
      have r3 := HW1.out.r3
      have rf := HW1.out.rf
      go_wp2
      exact bodyPost_ret (v := .agg #[.int .i64 0, .slice s1 ys.length c1, .slice s2 bs.length c2, .int .i64 off]) (by simp [results, Try.results43, go_sem, set4_0 r0, set4_1 r1, set4_2 r2, set4_3 r3]) rfl (vs_good HW1.out rfl rfl hn.out)
theorem sBR_any {w : World} {vS vT vP : Value} {xs ss ys : List Int} (hS : Ints w vS xs) (hT : Ints w vT ss) (hP : Ints w vP ys) (off : Int) (lx : xs.length ≤ 1048576) (ls : ss.length ≤ 1048576) (ly : ys.length ≤ 1048576) {c : Int} {L S : List Int} {o : Int} (hr : brL xs ss off ys = (c, L, S, o)) :
    Calls Try.prog 43 #[.agg #[vS, vT, .int .i64 off], vP] w fun e w' => VSOk w c L S o e w' :=
  (sBR_own hS hT hP off lx ls ly hr).mono fun e w' h => h.old
end Go.Proofs.Ytanbgpmbccianaa
