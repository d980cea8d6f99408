import Derived.Test.YtiekkninnjffpaaSlc
namespace Go.Proofs.Ytiekkninnjffpaa
open Go.ChangeShapes Go.RowKit
set_option linter.unusedSimpArgs false
set_option linter.unusedVariables false

theorem set_getD (xs : List Int) (a : Nat) (c : Int) (ha : a < xs.length) (j : Nat) : (xs.set a c).getD j 0 = if a = j then c else xs.getD j 0 := by
  by_cases h : a = j
  · subst h; rw [if_pos rfl]; simp [List.getD_eq_getElem?_getD, ha]
  · rw [if_neg h]; simp [List.getD_eq_getElem?_getD, List.getElem?_set, h]

def slS (xs ss : List Int) (a : Nat) (cnt step : Int) : List Int := if prod (xs.set a cnt) = 0 then ss else if 2 ≤ cnt then ss.set a (ss.getD a 0 * step) else ss
def slO (xs ss : List Int) (a : Nat) (cnt first off : Int) : Int := if prod (xs.set a cnt) = 0 then off else off + first * ss.getD a 0
theorem slS_len (xs ss : List Int) (a : Nat) (cnt step : Int) : (slS xs ss a cnt step).length = ss.length := by
  unfold slS
  split
  · rfl
  · split <;> simp

/-- The world of 'sliced': f at w.heap.size, the answer behind it. -/
structure FW (w W : World) (n : Int) (xs ss : List Int) (off : Int) : Prop where
  c0 : W.cell? ⟨w.heap.size, 0, none⟩ = some (.int .i64 n)
  l : ∀ j, j < 4 → W.cell? ⟨w.heap.size, 1 + j, none⟩ = some (.int .i64 (xs.getD j 0))
  s : ∀ j, j < 4 → W.cell? ⟨w.heap.size, 5 + j, none⟩ = some (.int .i64 (ss.getD j 0))
  c9 : W.cell? ⟨w.heap.size, 9, none⟩ = some (.int .i64 off)
  r : ∀ j, j < 10 → W.cell? ⟨w.heap.size + 1, j, none⟩ = some (.int .i64 0)
  ex : Ext w W
theorem FW.keep {w W W' : World} {n : Int} {xs ss : List Int} {off : Int} (h : FW w W n xs ss off) (x : Ext W W') : FW w W' n xs ss off :=
  ⟨x.box h.c0, fun j hj => x.box (h.l j hj), fun j hj => x.box (h.s j hj), x.box h.c9, fun j hj => x.box (h.r j hj), h.ex.trans x⟩
theorem FW.setL {w W : World} {n : Int} {xs ss : List Int} {off : Int} (h : FW w W n xs ss off) (a : Nat) (ha : a < xs.length) (h4 : a < 4) (c : Int) : FW w (W.setCell ⟨w.heap.size, 1 + a, none⟩ (.int .i64 c)) n (xs.set a c) ss off := by
  refine ⟨near (by omega) h.c0, fun j hj => ?_, fun j hj => near (by omega) (h.s j hj), near (by omega) h.c9, fun j hj => far1 (by omega) (h.r j hj), h.ex.setCell (Nat.le_refl _) _⟩
  rw [set_getD xs a c ha j]
  by_cases e : a = j
  · subst e; rw [if_pos rfl]; exact World.cell?_setCell_same _ _ _ (h.l a hj)
  · rw [if_neg e]; exact near (by omega) (h.l j hj)
theorem FW.setS {w W : World} {n : Int} {xs ss : List Int} {off : Int} (h : FW w W n xs ss off) (a : Nat) (ha : a < ss.length) (h4 : a < 4) (c : Int) : FW w (W.setCell ⟨w.heap.size, 5 + a, none⟩ (.int .i64 c)) n xs (ss.set a c) off := by
  refine ⟨near (by omega) h.c0, fun j hj => near (by omega) (h.l j hj), fun j hj => ?_, near (by omega) h.c9, fun j hj => far1 (by omega) (h.r j hj), h.ex.setCell (Nat.le_refl _) _⟩
  rw [set_getD ss a c ha j]
  by_cases e : a = j
  · subst e; rw [if_pos rfl]; exact World.cell?_setCell_same _ _ _ (h.s a hj)
  · rw [if_neg e]; exact near (by omega) (h.s j hj)
theorem FW.setO {w W : World} {n : Int} {xs ss : List Int} {off : Int} (h : FW w W n xs ss off) (o : Int) : FW w (W.setCell ⟨w.heap.size, 9, none⟩ (.int .i64 o)) n xs ss o :=
  ⟨near (by omega) h.c0, fun j hj => near (by omega) (h.l j hj), fun j hj => near (by omega) (h.s j hj), World.cell?_setCell_same _ _ _ h.c9, fun j hj => far1 (by omega) (h.r j hj), h.ex.setCell (Nat.le_refl _) _⟩

/-- The ten cells of the answer. -/
theorem chain10 {W : World} {R : Nat} (h : ∀ j, j < 10 → W.cell? ⟨R, j, none⟩ = some (.int .i64 0)) (v0 v1 v2 v3 v4 v5 v6 v7 v8 v9 : Value) :
    let C := (((((((((W.setCell ⟨R, 0, none⟩ v0).setCell ⟨R, 1, none⟩ v1).setCell ⟨R, 2, none⟩ v2).setCell ⟨R, 3, none⟩ v3).setCell ⟨R, 4, none⟩ v4).setCell ⟨R, 5, none⟩ v5).setCell ⟨R, 6, none⟩ v6).setCell ⟨R, 7, none⟩ v7).setCell ⟨R, 8, none⟩ v8).setCell ⟨R, 9, none⟩ v9
    C.cell? ⟨R, 0, none⟩ = some v0 ∧ C.cell? ⟨R, 1, none⟩ = some v1 ∧ C.cell? ⟨R, 2, none⟩ = some v2 ∧ C.cell? ⟨R, 3, none⟩ = some v3 ∧ C.cell? ⟨R, 4, none⟩ = some v4 ∧ C.cell? ⟨R, 5, none⟩ = some v5 ∧ C.cell? ⟨R, 6, none⟩ = some v6 ∧ C.cell? ⟨R, 7, none⟩ = some v7 ∧ C.cell? ⟨R, 8, none⟩ = some v8 ∧ C.cell? ⟨R, 9, none⟩ = some v9 := by
  intro C
  have Z := zt (zt (zt (zt (zt (zt (zt (zt (zt (zt (f := fun _ => (.int .i64 0 : Value)) h 0 v0) 1 v1) 2 v2) 3 v3) 4 v4) 5 v5) 6 v6) 7 v7) 8 v8) 9 v9
  exact ⟨(Z 0 (by omega)).trans rfl, (Z 1 (by omega)).trans rfl, (Z 2 (by omega)).trans rfl, (Z 3 (by omega)).trans rfl, (Z 4 (by omega)).trans rfl, (Z 5 (by omega)).trans rfl, (Z 6 (by omega)).trans rfl, (Z 7 (by omega)).trans rfl, (Z 8 (by omega)).trans rfl, (Z 9 (by omega)).trans rfl⟩

def SlOk (w : World) (xs ss : List Int) (off : Int) (e : Ending) (w' : World) : Prop := e = .returned (.agg (vw xs ss off)) ∧ Ext w w'

set_option maxRecDepth 100000 in
set_option maxHeartbeats 4000000 in
theorem sliced_any (w : World) (xs ss : List Int) (off : Int) (a : Nat) (start stop step : Int) (h4 : xs.length ≤ 4) (ha : a < xs.length) (hl : ss.length = xs.length) (hr : InR xs xs.length) (hss : InS ss ss.length) (ho : 0 ≤ off ∧ off ≤ 4096)
    (h1 : -1000000 ≤ start ∧ start ≤ 1000000) (h2 : -1000000 ≤ stop ∧ stop ≤ 1000000) (h3 : -1000000 ≤ step ∧ step ≤ 1000000) (hs : step ≠ 0) (F C : Int) (hF : rightL start (xs.getD a 0) step = F) (hC : cntS F (rightL stop (xs.getD a 0) step) step = C) :
    Calls Try.prog 73 #[.agg (vw xs ss off), .int .i64 a, .int .i64 start, .int .i64 stop, .int .i64 step] w fun e w' => SlOk w (xs.set a C) (slS xs ss a C step) (slO xs ss a C F off) e w' := by
  have hn := hr a ha
  have hsa := hss a (by omega)
  have x0 : Ext w ((w.alloc (.cells (vw xs ss off) 64)).alloc (.cells #[.int .i64 0, .int .i64 0, .int .i64 0, .int .i64 0, .int .i64 0, .int .i64 0, .int .i64 0, .int .i64 0, .int .i64 0, .int .i64 0] 64)) := ((Ext.refl w).alloc _ _).alloc _ _
  have y1 : Ext (w.alloc (.cells (vw xs ss off) 64)) ((w.alloc (.cells (vw xs ss off) 64)).alloc (.cells #[.int .i64 0, .int .i64 0, .int .i64 0, .int .i64 0, .int .i64 0, .int .i64 0, .int .i64 0, .int .i64 0, .int .i64 0, .int .i64 0] 64)) := (Ext.refl _).alloc _ _
  have n1 := fun j => new_cell w (vw xs ss off) 64 w.heap.size rfl j
  have n2 := fun j => new_cell (w.alloc (.cells (vw xs ss off) 64)) #[.int .i64 0, .int .i64 0, .int .i64 0, .int .i64 0, .int .i64 0, .int .i64 0, .int .i64 0, .int .i64 0, .int .i64 0, .int .i64 0] 64 (w.heap.size + 1) (by simp) j
  have S0 : Hid (FW w ((w.alloc (.cells (vw xs ss off) 64)).alloc (.cells #[.int .i64 0, .int .i64 0, .int .i64 0, .int .i64 0, .int .i64 0, .int .i64 0, .int .i64 0, .int .i64 0, .int .i64 0, .int .i64 0] 64)) xs.length xs ss off) := by
    refine ⟨y1.box (n1 0), fun j hj => ?_, fun j hj => ?_, y1.box (n1 9), fun j hj => ?_, x0⟩
    · obtain rfl | rfl | rfl | rfl : j = 0 ∨ j = 1 ∨ j = 2 ∨ j = 3 := by omega
      · exact y1.box (n1 1)
      · exact y1.box (n1 2)
      · exact y1.box (n1 3)
      · exact y1.box (n1 4)
    · obtain rfl | rfl | rfl | rfl : j = 0 ∨ j = 1 ∨ j = 2 ∨ j = 3 := by omega
      · exact y1.box (n1 5)
      · exact y1.box (n1 6)
      · exact y1.box (n1 7)
      · exact y1.box (n1 8)
    · obtain rfl | rfl | rfl | rfl | rfl | rfl | rfl | rfl | rfl | rfl : j = 0 ∨ j = 1 ∨ j = 2 ∨ j = 3 ∨ j = 4 ∨ j = 5 ∨ j = 6 ∨ j = 7 ∨ j = 8 ∨ j = 9 := by omega
      all_goals exact n2 _
  clear x0 y1 n1 n2
  have hb := rightL_bd hn hs h1
  have hb2 := rightL_bd hn hs h2
  have hcb := cntS_bd F (rightL stop (xs.getD a 0) step) step (xs.getD a 0) hs (by rw [← hF]; exact hb) hb2 hn.1
  rw [hC] at hcb
  have hFb : -1 ≤ F ∧ F ≤ 4096 := by rw [← hF]; unfold sLo sHi at hb; split at hb <;> omega
  have hGb : -1 ≤ rightL stop (xs.getD a 0) step ∧ rightL stop (xs.getD a 0) step ≤ 4096 := by unfold sLo sHi at hb2; split at hb2 <;> omega
  have P1 := hide (fun W => putRight_any start (xs.getD a 0) step hn h1 W)
  have P2 := hide (fun W => putRight_any stop (xs.getD a 0) step hn h2 W)
  have P3 := hide (fun W => countSteps_any F (rightL stop (xs.getD a 0) step) step hFb hGb hs h3 W)
  have hIn : Hid (InR (xs.set a C) (xs.set a C).length) := fun j hj => by
    rw [set_getD xs a C ha j]
    by_cases e : a = j
    · rw [if_pos e]; omega
    · rw [if_neg e]; exact hr j (by simpa using hj)
  have hcnt := hide (fun W => count_any W (xs.set a C) (by simpa using h4) hIn.out)
  rw [hF] at P1
  rw [hC] at P3
  have HSL := hide (fun W (h : FW w W xs.length xs ss off) => h.setL a ha (by omega) C)
  have qn := S0.out.l a (by omega)
  have qs := S0.out.s a (by omega)
  have hfs : -4096 * 4096 ≤ F * ss.getD a 0 ∧ F * ss.getD a 0 ≤ 4096 * 4096 := by
    by_cases e : F = -1
    · subst e; omega
    · have := mul_between F 4097 (ss.getD a 0) (by omega) (by omega)
      omega
  have hst : -4096000000 ≤ ss.getD a 0 * step ∧ ss.getD a 0 * step ≤ 4096000000 := by
    by_cases e : 0 ≤ step
    · have := mul_between step 1000001 (ss.getD a 0) (by omega) (by omega)
      have e2 : step * ss.getD a 0 = ss.getD a 0 * step := Int.mul_comm _ _
      omega
    · have := mul_between (-step) 1000001 (ss.getD a 0) (by omega) (by omega)
      have e2 : -step * ss.getD a 0 = -(ss.getD a 0 * step) := by rw [Int.neg_mul, Int.mul_comm]
      omega
  have hSO : Hid (slO xs ss a C F off = if prod (xs.set a C) = 0 then off else off + F * ss.getD a 0) := rfl
  have hSS : Hid (slS xs ss a C step = if prod (xs.set a C) = 0 then ss else if 2 ≤ C then ss.set a (ss.getD a 0 * step) else ss) := rfl
  generalize hN : xs.getD a 0 = n at qn P1 P2 P3 hn hcb
  generalize hSt : ss.getD a 0 = st at qs hfs hst hSO hSS
  generalize rightL stop n step = G at P2 P3
  have ha0 : (0 : Int) ≤ (a : Int) := Int.natCast_nonneg _
  have ha4 : (a : Int) < 4 := by omega
  have hNe := hide hN
  clear hN hSt hF hC hb hb2 hFb hGb
  have uf : ∀ W, FW w W xs.length xs ss off → ∀ o, W.frozen? ⟨w.heap.size, o, none⟩ = false := fun W h o => h.ex.unfrozen (Nat.le_refl _) o
  have UF := hide uf
  clear uf
  unfold vw at S0 qn qs ⊢
  generalize xs.getD 0 0 = e0 at S0 qn qs ⊢
  generalize xs.getD 1 0 = e1 at S0 qn qs ⊢
  generalize xs.getD 2 0 = e2 at S0 qn qs ⊢
  generalize xs.getD 3 0 = e3 at S0 qn qs ⊢
  generalize ss.getD 0 0 = e4 at S0 qn qs ⊢
  generalize ss.getD 1 0 = e5 at S0 qn qs ⊢
  generalize ss.getD 2 0 = e6 at S0 qn qs ⊢
  generalize ss.getD 3 0 = e7 at S0 qn qs ⊢
  go_enter Try.func73, Try.ntmps73
  go_wp2_with fail
  generalize hW0 : ((w.alloc (.cells #[.int .i64 xs.length, .int .i64 e0, .int .i64 e1, .int .i64 e2, .int .i64 e3, .int .i64 e4, .int .i64 e5, .int .i64 e6, .int .i64 e7, .int .i64 off] 64)).alloc (.cells #[.int .i64 0, .int .i64 0, .int .i64 0, .int .i64 0, .int .i64 0, .int .i64 0, .int .i64 0, .int .i64 0, .int .i64 0, .int .i64 0] 64)) = V0 at S0 qn qs ⊢
  clear hW0
  go_region
  have S1 := hide (S0.out.keep ((Ext.refl V0).drew))
  generalize hV1 : V0.drew = V1 at S1 ⊢
  have qn1 : V1.cell? ⟨w.heap.size, 1 + a, none⟩ = some (.int .i64 n) := by rw [← hV1]; exact qn
  clear hV1 qn qs S0
  go_wp2_with fail
  refine (P1.out _).mono ?_
  rintro e w' ⟨rfl, rfl⟩
  go_wp2_with fail
  refine (P2.out _).mono ?_
  rintro e w' ⟨rfl, rfl⟩
  go_wp2_with fail
  refine (P3.out _).mono ?_
  rintro e w' ⟨rfl, rfl⟩
  have uf1 := UF.out _ S1.out
  have S2 := hide (HSL.out _ S1.out)
  clear P1 P2 P3 HSL
  have hcnt2 : Hid (∀ W, Calls Try.prog 61 #[.agg #[.int .i64 (xs.length : Int), .int .i64 ((xs.set a C).getD 0 0), .int .i64 ((xs.set a C).getD 1 0), .int .i64 ((xs.set a C).getD 2 0), .int .i64 ((xs.set a C).getD 3 0)]] W fun e w' => e = .returned (.int .i64 (prod (xs.set a C))) ∧ Ext W w') := fun W => by
    have := hcnt.out W
    unfold shp at this
    rw [List.length_set] at this
    refine this.mono ?_
    rintro e w' ⟨h1, rfl⟩
    exact ⟨h1, (Ext.refl W).alloc _ _⟩
  have z0 := S2.out.c0
  have z1 : (w'.setCell ⟨w.heap.size, 1 + a, none⟩ (.int .i64 C)).cell? ⟨w.heap.size, 1, none⟩ = _ := S2.out.l 0 (by omega)
  have z2 : (w'.setCell ⟨w.heap.size, 1 + a, none⟩ (.int .i64 C)).cell? ⟨w.heap.size, 2, none⟩ = _ := S2.out.l 1 (by omega)
  have z3 : (w'.setCell ⟨w.heap.size, 1 + a, none⟩ (.int .i64 C)).cell? ⟨w.heap.size, 3, none⟩ = _ := S2.out.l 2 (by omega)
  have z4 : (w'.setCell ⟨w.heap.size, 1 + a, none⟩ (.int .i64 C)).cell? ⟨w.heap.size, 4, none⟩ = _ := S2.out.l 3 (by omega)
  generalize hT0 : (xs.set a C).getD 0 0 = t0 at z1 hcnt2
  generalize hT1 : (xs.set a C).getD 1 0 = t1 at z2 hcnt2
  generalize hT2 : (xs.set a C).getD 2 0 = t2 at z3 hcnt2
  generalize hT3 : (xs.set a C).getD 3 0 = t3 at z4 hcnt2
  have HT0 := hide hT0
  have HT1 := hide hT1
  have HT2 := hide hT2
  have HT3 := hide hT3
  clear hT0 hT1 hT2 hT3 hcnt
  go_wp2_with fail
  refine (hcnt2.out _).mono ?_
  rintro e w3 ⟨rfl, x3⟩
  have S3 := hide (S2.out.keep x3)
  clear x3 z0 z1 z2 z3 z4 S2 S1 hcnt2 qn1 uf1
  generalize hP : prod (xs.set a C) = P at hSO hSS
  by_cases hP0 : P = 0
  · rw [if_pos hP0] at hSO hSS
    subst hP0
    clear hP
    have z0 := S3.out.c0
    have z1 : w3.cell? ⟨w.heap.size, 1, none⟩ = some (.int .i64 t0) := by have := S3.out.l 0 (by omega); rw [HT0.out] at this; exact this
    have z2 : w3.cell? ⟨w.heap.size, 2, none⟩ = some (.int .i64 t1) := by have := S3.out.l 1 (by omega); rw [HT1.out] at this; exact this
    have z3 : w3.cell? ⟨w.heap.size, 3, none⟩ = some (.int .i64 t2) := by have := S3.out.l 2 (by omega); rw [HT2.out] at this; exact this
    have z4 : w3.cell? ⟨w.heap.size, 4, none⟩ = some (.int .i64 t3) := by have := S3.out.l 3 (by omega); rw [HT3.out] at this; exact this
    have z5 : w3.cell? ⟨w.heap.size, 5, none⟩ = _ := S3.out.s 0 (by omega)
    have z6 : w3.cell? ⟨w.heap.size, 6, none⟩ = _ := S3.out.s 1 (by omega)
    have z7 : w3.cell? ⟨w.heap.size, 7, none⟩ = _ := S3.out.s 2 (by omega)
    have z8 : w3.cell? ⟨w.heap.size, 8, none⟩ = _ := S3.out.s 3 (by omega)
    have z9 := S3.out.c9
    have rr := S3.out.r
    have rr0 := rr 0 (by omega)
    have rr1 := rr 1 (by omega)
    have rr2 := rr 2 (by omega)
    have rr3 := rr 3 (by omega)
    have rr4 := rr 4 (by omega)
    have rr5 := rr 5 (by omega)
    have rr6 := rr 6 (by omega)
    have rr7 := rr 7 (by omega)
    have rr8 := rr 8 (by omega)
    have rr9 := rr 9 (by omega)
    have rf := fun o => S3.out.ex.unfrozen (b := w.heap.size + 1) (by omega) o
    have HE := hide S3.out.ex
    have HRR := hide rr
    clear rr
    generalize hU0 : (ss).getD 0 0 = u0 at z5
    have HU0 := hide hU0
    clear hU0
    generalize hU1 : (ss).getD 1 0 = u1 at z6
    have HU1 := hide hU1
    clear hU1
    generalize hU2 : (ss).getD 2 0 = u2 at z7
    have HU2 := hide hU2
    clear hU2
    generalize hU3 : (ss).getD 3 0 = u3 at z8
    have HU3 := hide hU3
    clear hU3
    go_wp2
    obtain ⟨q0, q1, q2, q3, q4, q5, q6, q7, q8, q9⟩ := chain10 HRR.out (.int .i64 (xs.length : Int)) (.int .i64 t0) (.int .i64 t1) (.int .i64 t2) (.int .i64 t3) (.int .i64 u0) (.int .i64 u1) (.int .i64 u2) (.int .i64 u3) (.int .i64 off)
    exact bodyPost_ret (v := .agg #[.int .i64 (xs.length : Int), .int .i64 t0, .int .i64 t1, .int .i64 t2, .int .i64 t3, .int .i64 u0, .int .i64 u1, .int .i64 u2, .int .i64 u3, .int .i64 off]) (by simp [results, Try.results73, go_sem, q0, q1, q2, q3, q4, q5, q6, q7, q8, q9]) rfl ⟨by rw [hSO.out, hSS.out]; unfold vw; rw [List.length_set, HT0.out, HT1.out, HT2.out, HT3.out, HU0.out, HU1.out, HU2.out, HU3.out], by repeat (first | with_reducible exact HE.out | with_reducible refine Ext.setCell ?_ (by show w.heap.size ≤ w.heap.size + 1; omega) _)⟩
  · rw [if_neg hP0] at hSO hSS
    have hPn : (P == 0) = false := by simp [hP0]
    have HP := hide hP
    clear hP hP0
    have y9 := S3.out.c9
    have wf := UF.out
    have uf3 := fun o => S3.out.ex.unfrozen (b := w.heap.size) (Nat.le_refl _) o
    have S4 := hide (S3.out.setO (off + F * st))
    by_cases hC2 : 2 ≤ C
    · rw [if_pos hC2] at hSS
      have y5 := near (i := 9) (v := .int .i64 (off + F * st)) (by omega) (S3.out.s a (by omega))
      generalize ss.getD a 0 = old at y5
      have S5 := hide (S4.out.setS a (by omega) (by omega) (st * step))
      clear wf
      have z0 := S5.out.c0
      have z1 : ((w3.setCell ⟨w.heap.size, 9, none⟩ (.int .i64 (off + F * st))).setCell ⟨w.heap.size, 5 + a, none⟩ (.int .i64 (st * step))).cell? ⟨w.heap.size, 1, none⟩ = some (.int .i64 t0) := by have := S5.out.l 0 (by omega); rw [HT0.out] at this; exact this
      have z2 : ((w3.setCell ⟨w.heap.size, 9, none⟩ (.int .i64 (off + F * st))).setCell ⟨w.heap.size, 5 + a, none⟩ (.int .i64 (st * step))).cell? ⟨w.heap.size, 2, none⟩ = some (.int .i64 t1) := by have := S5.out.l 1 (by omega); rw [HT1.out] at this; exact this
      have z3 : ((w3.setCell ⟨w.heap.size, 9, none⟩ (.int .i64 (off + F * st))).setCell ⟨w.heap.size, 5 + a, none⟩ (.int .i64 (st * step))).cell? ⟨w.heap.size, 3, none⟩ = some (.int .i64 t2) := by have := S5.out.l 2 (by omega); rw [HT2.out] at this; exact this
      have z4 : ((w3.setCell ⟨w.heap.size, 9, none⟩ (.int .i64 (off + F * st))).setCell ⟨w.heap.size, 5 + a, none⟩ (.int .i64 (st * step))).cell? ⟨w.heap.size, 4, none⟩ = some (.int .i64 t3) := by have := S5.out.l 3 (by omega); rw [HT3.out] at this; exact this
      have z5 : ((w3.setCell ⟨w.heap.size, 9, none⟩ (.int .i64 (off + F * st))).setCell ⟨w.heap.size, 5 + a, none⟩ (.int .i64 (st * step))).cell? ⟨w.heap.size, 5, none⟩ = _ := S5.out.s 0 (by omega)
      have z6 : ((w3.setCell ⟨w.heap.size, 9, none⟩ (.int .i64 (off + F * st))).setCell ⟨w.heap.size, 5 + a, none⟩ (.int .i64 (st * step))).cell? ⟨w.heap.size, 6, none⟩ = _ := S5.out.s 1 (by omega)
      have z7 : ((w3.setCell ⟨w.heap.size, 9, none⟩ (.int .i64 (off + F * st))).setCell ⟨w.heap.size, 5 + a, none⟩ (.int .i64 (st * step))).cell? ⟨w.heap.size, 7, none⟩ = _ := S5.out.s 2 (by omega)
      have z8 : ((w3.setCell ⟨w.heap.size, 9, none⟩ (.int .i64 (off + F * st))).setCell ⟨w.heap.size, 5 + a, none⟩ (.int .i64 (st * step))).cell? ⟨w.heap.size, 8, none⟩ = _ := S5.out.s 3 (by omega)
      have z9 := S5.out.c9
      have rr := S5.out.r
      have rr0 := rr 0 (by omega)
      have rr1 := rr 1 (by omega)
      have rr2 := rr 2 (by omega)
      have rr3 := rr 3 (by omega)
      have rr4 := rr 4 (by omega)
      have rr5 := rr 5 (by omega)
      have rr6 := rr 6 (by omega)
      have rr7 := rr 7 (by omega)
      have rr8 := rr 8 (by omega)
      have rr9 := rr 9 (by omega)
      have rf := fun o => S5.out.ex.unfrozen (b := w.heap.size + 1) (by omega) o
      have HE := hide S5.out.ex
      have HRR := hide rr
      clear rr
      generalize hU0 : (ss.set a (st * step)).getD 0 0 = u0 at z5
      have HU0 := hide hU0
      clear hU0
      generalize hU1 : (ss.set a (st * step)).getD 1 0 = u1 at z6
      have HU1 := hide hU1
      clear hU1
      generalize hU2 : (ss.set a (st * step)).getD 2 0 = u2 at z7
      have HU2 := hide hU2
      clear hU2
      generalize hU3 : (ss.set a (st * step)).getD 3 0 = u3 at z8
      have HU3 := hide hU3
      clear hU3
      go_wp2
      obtain ⟨q0, q1, q2, q3, q4, q5, q6, q7, q8, q9⟩ := chain10 HRR.out (.int .i64 (xs.length : Int)) (.int .i64 t0) (.int .i64 t1) (.int .i64 t2) (.int .i64 t3) (.int .i64 u0) (.int .i64 u1) (.int .i64 u2) (.int .i64 u3) (.int .i64 (off + F * st))
      exact bodyPost_ret (v := .agg #[.int .i64 (xs.length : Int), .int .i64 t0, .int .i64 t1, .int .i64 t2, .int .i64 t3, .int .i64 u0, .int .i64 u1, .int .i64 u2, .int .i64 u3, .int .i64 (off + F * st)]) (by simp [results, Try.results73, go_sem, q0, q1, q2, q3, q4, q5, q6, q7, q8, q9]) rfl ⟨by rw [hSO.out, hSS.out]; unfold vw; rw [List.length_set, HT0.out, HT1.out, HT2.out, HT3.out, HU0.out, HU1.out, HU2.out, HU3.out], by repeat (first | with_reducible exact HE.out | with_reducible refine Ext.setCell ?_ (by show w.heap.size ≤ w.heap.size + 1; omega) _)⟩
    · rw [if_neg hC2] at hSS
      clear wf
      have z0 := S4.out.c0
      have z1 : (w3.setCell ⟨w.heap.size, 9, none⟩ (.int .i64 (off + F * st))).cell? ⟨w.heap.size, 1, none⟩ = some (.int .i64 t0) := by have := S4.out.l 0 (by omega); rw [HT0.out] at this; exact this
      have z2 : (w3.setCell ⟨w.heap.size, 9, none⟩ (.int .i64 (off + F * st))).cell? ⟨w.heap.size, 2, none⟩ = some (.int .i64 t1) := by have := S4.out.l 1 (by omega); rw [HT1.out] at this; exact this
      have z3 : (w3.setCell ⟨w.heap.size, 9, none⟩ (.int .i64 (off + F * st))).cell? ⟨w.heap.size, 3, none⟩ = some (.int .i64 t2) := by have := S4.out.l 2 (by omega); rw [HT2.out] at this; exact this
      have z4 : (w3.setCell ⟨w.heap.size, 9, none⟩ (.int .i64 (off + F * st))).cell? ⟨w.heap.size, 4, none⟩ = some (.int .i64 t3) := by have := S4.out.l 3 (by omega); rw [HT3.out] at this; exact this
      have z5 : (w3.setCell ⟨w.heap.size, 9, none⟩ (.int .i64 (off + F * st))).cell? ⟨w.heap.size, 5, none⟩ = _ := S4.out.s 0 (by omega)
      have z6 : (w3.setCell ⟨w.heap.size, 9, none⟩ (.int .i64 (off + F * st))).cell? ⟨w.heap.size, 6, none⟩ = _ := S4.out.s 1 (by omega)
      have z7 : (w3.setCell ⟨w.heap.size, 9, none⟩ (.int .i64 (off + F * st))).cell? ⟨w.heap.size, 7, none⟩ = _ := S4.out.s 2 (by omega)
      have z8 : (w3.setCell ⟨w.heap.size, 9, none⟩ (.int .i64 (off + F * st))).cell? ⟨w.heap.size, 8, none⟩ = _ := S4.out.s 3 (by omega)
      have z9 := S4.out.c9
      have rr := S4.out.r
      have rr0 := rr 0 (by omega)
      have rr1 := rr 1 (by omega)
      have rr2 := rr 2 (by omega)
      have rr3 := rr 3 (by omega)
      have rr4 := rr 4 (by omega)
      have rr5 := rr 5 (by omega)
      have rr6 := rr 6 (by omega)
      have rr7 := rr 7 (by omega)
      have rr8 := rr 8 (by omega)
      have rr9 := rr 9 (by omega)
      have rf := fun o => S4.out.ex.unfrozen (b := w.heap.size + 1) (by omega) o
      have HE := hide S4.out.ex
      have HRR := hide rr
      clear rr
      generalize hU0 : (ss).getD 0 0 = u0 at z5
      have HU0 := hide hU0
      clear hU0
      generalize hU1 : (ss).getD 1 0 = u1 at z6
      have HU1 := hide hU1
      clear hU1
      generalize hU2 : (ss).getD 2 0 = u2 at z7
      have HU2 := hide hU2
      clear hU2
      generalize hU3 : (ss).getD 3 0 = u3 at z8
      have HU3 := hide hU3
      clear hU3
      go_wp2
      obtain ⟨q0, q1, q2, q3, q4, q5, q6, q7, q8, q9⟩ := chain10 HRR.out (.int .i64 (xs.length : Int)) (.int .i64 t0) (.int .i64 t1) (.int .i64 t2) (.int .i64 t3) (.int .i64 u0) (.int .i64 u1) (.int .i64 u2) (.int .i64 u3) (.int .i64 (off + F * st))
      exact bodyPost_ret (v := .agg #[.int .i64 (xs.length : Int), .int .i64 t0, .int .i64 t1, .int .i64 t2, .int .i64 t3, .int .i64 u0, .int .i64 u1, .int .i64 u2, .int .i64 u3, .int .i64 (off + F * st)]) (by simp [results, Try.results73, go_sem, q0, q1, q2, q3, q4, q5, q6, q7, q8, q9]) rfl ⟨by rw [hSO.out, hSS.out]; unfold vw; rw [List.length_set, HT0.out, HT1.out, HT2.out, HT3.out, HU0.out, HU1.out, HU2.out, HU3.out], by repeat (first | with_reducible exact HE.out | with_reducible refine Ext.setCell ?_ (by show w.heap.size ≤ w.heap.size + 1; omega) _)⟩
end Go.Proofs.Ytiekkninnjffpaa
