import Derived.Test.YtfhcpicddegblaaGreatM2
import Derived.RegionTactic
import Derived.Test.YtfhcpicddegblaaGreatFsF
namespace Go.Proofs.YtfhcpicddegblaaGreat
open Go.RowKit FL
set_option linter.unusedSimpArgs false
set_option linter.unusedVariables false

theorem nan_abs (z : Nat) : nanD (absF z) = nanD z := by
  rw [Bool.eq_iff_iff, nanD_iff, nanD_iff]
  unfold absF
  rw [Nat.mod_mod]
/-- The specification's absolute value: a zero may keep its sign. -/
def LA (x r : Nat) : Prop := nanD r = nanD x ∧ (nanD x = false → keyD r = keyD (absF x))
theorem LA.flt {x y r q : Nat} (h : LA x r) (k : LA y q) : FL.flt r q = FL.flt (absF x) (absF y) := by
  unfold FL.flt
  rw [h.1, k.1, nan_abs, nan_abs]
  cases hx : nanD x <;> cases hy : nanD y <;> simp
  rw [h.2 hx, k.2 hy]
theorem l5Abs_any (x : Nat) (h : B64 x) (w : World) :
    Calls Tryz.prog 69 #[.float .f64 x] w fun e w' => ∃ r n, e = .returned (.float .f64 r) ∧ LA x r ∧ w' = w.drewN n := by
  have hng := hide (l1Negate_any x h)
  cases hf : flt x 0
  · go_enter Tryz.func69, Tryz.ntmps69
    go_wp2
    go_ret
    refine ⟨x, 0, rfl, ⟨rfl, fun hn => ?_⟩, rfl⟩
    unfold FL.flt at hf
    rw [hn, nan_zero, key_zero, keyD_eq x h] at hf
    have ha : absF x < 18446744073709551616 := by unfold absF; omega
    rw [keyD_eq x h, keyD_eq _ ha]
    unfold absF
    simp only [Bool.not_false, Bool.true_and, decide_eq_false_iff_not] at hf
    unfold B64 at h
    split at hf <;> rename_i hc
    · rw [if_pos hc, Nat.mod_eq_of_lt hc, if_pos hc]
    · have : x = 9223372036854775808 := by omega
      subst this
      simp
  · go_enter Tryz.func69, Tryz.ntmps69
    go_wp2_with fail
    refine (hng.out _).mono ?_
    rintro e w' ⟨r, n, rfl, hs, hb, rfl⟩
    go_wp2
    go_ret
    refine ⟨r, n, rfl, ⟨by rw [same_nan hs, flip_nan x h], fun hn => ?_⟩, rfl⟩
    have hr : r = FL.flip x := by
      rcases (same_iff _ _).1 hs with ⟨a, b⟩ | ⟨_, a⟩
      · rw [flip_nan x h, hn] at b; cases b
      · exact a
    unfold FL.flt at hf
    rw [hn, nan_zero, key_zero, keyD_eq x h] at hf
    simp only [Bool.not_false, Bool.true_and, decide_eq_true_eq] at hf
    unfold B64 at h
    split at hf <;> rename_i hc
    · omega
    · rw [hr, show FL.flip x = absF x by unfold FL.flip absF; rw [if_neg hc]; omega]
theorem info64 : (Tryz.prog.info? 64).map (fun i => (i.zero, i.size, i.bytes)) = some (some (.float .f64 0), 1, 8) := by kernel_rfl
theorem make_floats (W : World) (n : Nat) (hn : n ≤ 4096) : (Instr.makeSlice 67 (.int .i64 n) (.int .i64 n)).run Tryz.prog W = .ok (.slice (some ⟨W.heap.size, 0, none⟩) n n) (W.alloc (.cells (madeCells #[.float .f64 0] n) 64)) := by
  obtain ⟨i0, hi0, hz0, hz1, hz2⟩ := info_parts info64
  have h := run_make (P := Tryz.prog) W 67 64 i0 (.float .f64 0) Tryz.underlying67 hi0 hz0 .i64 .i64 n n (by omega) (by omega) (by rw [hz2]; omega) (by omega)
  rw [hz1] at h
  simp only [Int.toNat_natCast, Nat.mul_one] at h
  exact h
theorem frow_new (W : World) (n : Nat) : FRow (W.alloc (.cells (madeCells #[.float .f64 0] n) 64)) W.heap.size (List.replicate n 0) := by
  refine ⟨fun j hj => ?_, fun o => ?_, fun j => ?_⟩
  · have := new_cell W (madeCells #[.float .f64 0] n) 64 W.heap.size rfl j
    rw [this]
    simp at hj
    simp [madeCells, hj, List.getD_eq_getElem?_getD, Nat.mod_one]
  · exact ((Ext.refl W).alloc _ _).unfrozen (Nat.le_refl _) o
  · simp only [List.getD_eq_getElem?_getD, List.getElem?_replicate]
    split <;> (unfold B64; simp)

section
attribute [local go_sem] run_ar_add run_ar_sub run_ar_mul run_ar_quo
set_option maxHeartbeats 4000000 in
theorem unknowns_any {w : World} {g h n cg : Nat} {bs : List Nat} {s t : Sys} (H : SysIn w g h n bs s) (hst : SmS s t) (hn0 : 0 < n) (hn : n ≤ 4096) :
    Calls Tryz.prog 46 #[.agg #[.slice (some ⟨g, 0, none⟩) n cg, .slice (some ⟨h, 0, none⟩) n n]] w fun e w' => ∃ (b : Nat) (X : List Nat), e = .returned (.slice (some ⟨b, 0, none⟩) n n) ∧ FRow w' b X ∧ X.length = n ∧ SmL X (t.back n) ∧ Ext w w' ∧ w.heap.size ≤ b := by
  have x0 : Ext w (w.alloc (.cells #[.slice (some ⟨g, 0, none⟩) n cg, .slice (some ⟨h, 0, none⟩) n n] 94)) := (Ext.refl w).alloc _ _
  have n1 := fun j => new_cell w #[.slice (some ⟨g, 0, none⟩) n cg, .slice (some ⟨h, 0, none⟩) n n] 94 w.heap.size rfl j
  have c0 := n1 0
  have c1 := n1 1
  simp only [List.getElem?_toArray, List.getElem?_cons_zero, List.getElem?_cons_succ] at c0 c1
  have hmk := make_floats (w.alloc (.cells #[.slice (some ⟨g, 0, none⟩) n cg, .slice (some ⟨h, 0, none⟩) n n] 94)) n hn
  have F0 := hide (frow_new (w.alloc (.cells #[.slice (some ⟨g, 0, none⟩) n cg, .slice (some ⟨h, 0, none⟩) n n] 94)) n)
  have x1 := x0.alloc (madeCells #[.float .f64 0] n) 64
  have c0' := ((Ext.refl _).alloc (madeCells #[.float .f64 0] n) 64).box c0
  have c1' := ((Ext.refl _).alloc (madeCells #[.float .f64 0] n) 64).box c1
  have hs1 : (w.alloc (.cells #[.slice (some ⟨g, 0, none⟩) n cg, .slice (some ⟨h, 0, none⟩) n n] 94)).heap.size = w.heap.size + 1 := by simp
  have n0 : (0 : Int) ≤ (n : Int) := Int.natCast_nonneg _
  have htl : t.1.length = n := by rw [← hst.1]; exact H.sq.1
  have HH := hide H
  have HST := hide hst
  go_enter Tryz.func46, Tryz.ntmps46
  go_wp2_with fail
  rw [hs1] at F0
  have X1 := hide x1
  have C0 := hide c0'
  have C1 := hide c1'
  clear x0 x1 c0 c1 c0' c1' hmk n1 H hst
  generalize (w.alloc (.cells #[.slice (some ⟨g, 0, none⟩) n cg, .slice (some ⟨h, 0, none⟩) n n] 94)).alloc (.cells (madeCells #[.float .f64 0] n) 64) = W2 at F0 X1 C0 C1 ⊢
  go_loopw [4] (fun i wr => ∃ m : Nat, i = .int .i64 ((n : Int) - 1 - m) ∧ m ≤ n ∧ ∃ X, FRow wr (w.heap.size + 1) X ∧ X.length = n ∧ SmL X (t.back m) ∧ Mut (w.heap.size + 1) W2 wr) (fun i _ => ((intOf i) + 1).toNat)
  case atStart => exact ⟨0, by go_num, by omega, List.replicate n 0, F0.out, by simp, by unfold Sys.back; rw [htl]; exact SmL.refl _, Mut.refl _ _⟩
  case round =>
    obtain ⟨m, rfl, hm, X, hF, hXl, hS, hM⟩ := hrel
    by_cases hmn : m < n
    · obtain ⟨i, hi⟩ : ∃ i : Nat, (n : Int) - 1 - m = i := ⟨n - 1 - m, by omega⟩
      rw [hi]
      have hin : i < n := by omega
      have i0 : (0 : Int) ≤ (i : Int) := Int.natCast_nonneg _
      have i1 : (i : Int) < (n : Int) := by omega
      have hhl : h < w.heap.size := cell_lt (HH.out.rt.cell i (by rw [HH.out.sq.2.1]; exact hin))
      have hgl : g < w.heap.size := cell_lt (HH.out.out i hin)
      have c0 := hM.box (show w.heap.size ≠ w.heap.size + 1 by omega) C0.out
      have c1 := hM.box (show w.heap.size ≠ w.heap.size + 1 by omega) C1.out
      have d1 := hM.box (show h ≠ w.heap.size + 1 by omega) (X1.out.box (HH.out.rt.cell i (by rw [HH.out.sq.2.1]; exact hin)))
      have d2 := hM.box (show g ≠ w.heap.size + 1 by omega) (X1.out.box (HH.out.out i hin))
      have hib := HH.out.lt hin
      have HRow : Hid (FRow wr (bs.getD i 0) (s.1.getD i [])) := (HH.out.row i hin).block ((hM.block _ (Nat.lt_of_lt_of_le hib X1.out.bl.size) (by omega)).trans (X1.out.bl.block _ hib))
      have r64 := HH.out.rt.b64 i
      have rs : sameB (s.2.getD i 0) (t.rest (t.back m) i 0) = true := HST.out.rt i
      generalize s.2.getD i 0 = r0 at d1 r64 rs
      generalize hbi : bs.getD i 0 = bi at d2 hib HRow
      have HF := hide hF
      have HS := hide hS
      have HM := hide hM
      have D2 := hide d2
      have R64 := hide r64
      have RS := hide rs
      have hrl := HH.out.rowLen hin
      clear hF hS hM d2 r64 rs hbi
      go_wp2_with fail
      go_loopw [5, 6] (fun r j wq => ∃ (q rr : Nat), j = .int .i64 (i + 1 + q : Nat) ∧ i + 1 + q ≤ n ∧ r = .float .f64 rr ∧ B64 rr ∧ sameB rr (t.rest (t.back m) i q) = true ∧ ∃ z, wq = wr.drewN z) (fun r j _ => n - (intOf j).toNat)
      case atStart => exact ⟨0, r0, by simp, by omega, rfl, R64.out, RS.out, 0, rfl⟩
      case round =>
        obtain ⟨q, rr, rfl, hq, rfl, hr64, hrs, z, rfl⟩ := hrel
        by_cases hqn : i + 1 + q < n
        · have j0 : (0 : Int) ≤ ((i + 1 + q : Nat) : Int) := Int.natCast_nonneg _
          have j1 : ((i + 1 + q : Nat) : Int) < (n : Int) := by omega
          have d2 := D2.out
          have d3 := HRow.out.cell (i + 1 + q) (by omega)
          have d4 := HF.out.cell (i + 1 + q) (by omega)
          have s3 := (HST.out.2.1 i).at (i + 1 + q)
          have s4 := HS.out.at (i + 1 + q)
          have hnx : Hid (t.rest (t.back m) i (q + 1) = fop .sub (t.rest (t.back m) i q) (fop .mul (t.at i (i + 1 + q)) ((t.back m).getD (i + 1 + q) 0))) := rfl
          change sameB _ (t.at i (i + 1 + q)) = true at s3
          generalize (s.1.getD i []).getD (i + 1 + q) 0 = a at d3 s3
          generalize X.getD (i + 1 + q) 0 = b at d4 s4
          have S3 := hide s3
          have S4 := hide s4
          have HRS := hide hrs
          clear s3 s4 hrs
          generalize hJ : i + 1 + q = j at *
          go_wp2_with fail
          go_region
          have hz : sameB (arR .sub rr (arR .mul a b (wr.drewN (z + 1))) (wr.drewN (z + 1 + arN .mul a b))) (fop .sub (t.rest (t.back m) i q) (fop .mul (t.at i j) ((t.back m).getD j 0))) = true := arR_same .sub _ HRS.out (arR_same .mul _ S3.out S4.out)
          rw [← hnx.out] at hz
          have hz64 := arR_lt .sub rr (arR .mul a b (wr.drewN (z + 1))) (wr.drewN (z + 1 + arN .mul a b))
          generalize arR .sub rr (arR .mul a b (wr.drewN (z + 1))) (wr.drewN (z + 1 + arN .mul a b)) = rn at hz hz64 ⊢
          generalize (z + 1 + arN .mul a b + arN .sub rr (arR .mul a b (wr.drewN (z + 1)))) = zn
          have HZ := hide hz
          have HZ64 := hide hz64
          clear hz hz64
          go_wp2_with fail
          go_roundw
          · exact ⟨q + 1, rn, by rw [← hJ]; go_num, by omega, rfl, HZ64.out, HZ.out, zn, rfl⟩
          · simp [intOf]; omega
        · have hqq : i + 1 + q = n := by omega
          have hqm : q = m := by omega
          subst hqm
          have hd : decide (((i + 1 + q : Nat) : Int) < (n : Int)) = false := decide_eq_false (by omega)
          have d2 := D2.out
          have d3 := HRow.out.cell i (by omega)
          have d4 := HF.out.cell i (by omega)
          have f4 := HF.out.fz i
          have s3 := (HST.out.2.1 i).at i
          change sameB _ (t.at i i) = true at s3
          have hnx : Hid (t.back (q + 1) = (t.back q).set i (fop .quo (t.rest (t.back q) i q) (t.at i i))) := by
            show t.back (q + 1) = _
            have e : t.back (q + 1) = (t.back q).set (t.1.length - 1 - q) (fop .quo (t.rest (t.back q) (t.1.length - 1 - q) q) (t.at (t.1.length - 1 - q) (t.1.length - 1 - q))) := rfl
            rw [htl, show n - 1 - q = i by omega] at e
            exact e
          generalize (s.1.getD i []).getD i 0 = a at d3 s3
          generalize X.getD i 0 = b at d4
          have S3 := hide s3
          have HRS := hide hrs
          clear s3 hrs
          generalize hJ : i + 1 + q = j at *
          go_wp2_with fail
          have hz : sameB (arR .quo rr a (wr.drewN z)) (fop .quo (t.rest (t.back q) i q) (t.at i i)) = true := arR_same .quo _ HRS.out S3.out
          refine ⟨⟨q + 1, by congr 1; omega, by omega, X.set i (arR .quo rr a (wr.drewN z)), (FRow.block (w' := wr.drewN (z + arN .quo rr a)) HF.out rfl).set (by omega) (arR_lt _ _ _ _), by simpa using hXl, ?_, (HM.out.drewN _).setCell i _⟩, by simp [intOf]⟩
          rw [hnx.out]
          exact HS.out.set i hz
    · have hmm : m = n := by omega
      subst hmm
      have hd : decide (0 ≤ (m : Int) - 1 - m) = false := decide_eq_false (by omega)
      go_wp2
      go_ret
      exact ⟨_, X, rfl, hF, hXl, hS, hM.ext X1.out (by omega), by omega⟩
end
/-- The specification's system in memory: rows of a slice and a float in block g. -/
structure SysSp (w : World) (g n : Nat) (bs cps : List Nat) (s : Sys) : Prop where
  sq : s.Sq n
  a : ∀ i, i < n → w.cell? ⟨g, i * 2, none⟩ = some (.slice (some ⟨bs.getD i 0, 0, none⟩) n (cps.getD i 0))
  b : ∀ i, i < n → w.cell? ⟨g, i * 2 + 1, none⟩ = some (.float .f64 (s.rt i))
  ofz : ∀ o, w.frozen? ⟨g, o, none⟩ = false
  row : ∀ i, i < n → FRow w (bs.getD i 0) (s.1.getD i [])
  b64 : ∀ i, B64 (s.rt i)
  nd : ∀ i j, i < n → j < n → i ≠ j → bs.getD i 0 ≠ bs.getD j 0
  gb : ∀ i, i < n → bs.getD i 0 ≠ g
  len : bs.length = n
  lenc : cps.length = n
theorem SysSp.rowLen {w : World} {g n : Nat} {bs cps : List Nat} {s : Sys} (H : SysSp w g n bs cps s) {i : Nat} (hi : i < n) : (s.1.getD i []).length = n := H.sq.2.2 i hi
theorem SysSp.elt {w : World} {g n : Nat} {bs cps : List Nat} {s : Sys} (H : SysSp w g n bs cps s) {i j : Nat} (hi : i < n) (hj : j < n) : w.cell? ⟨bs.getD i 0, j, none⟩ = some (.float .f64 (s.at i j)) := (H.row i hi).cell j (by rw [H.rowLen hi]; exact hj)
theorem SysSp.lt {w : World} {g n : Nat} {bs cps : List Nat} {s : Sys} (H : SysSp w g n bs cps s) {i : Nat} (hi : i < n) : bs.getD i 0 < w.heap.size := cell_lt (H.elt hi hi)
theorem SysSp.blocks {w w' : World} {g n : Nat} {bs cps : List Nat} {s : Sys} (H : SysSp w g n bs cps s) (hg : w'.heap[g]? = w.heap[g]?) (hb : ∀ i, i < n → w'.heap[bs.getD i 0]? = w.heap[bs.getD i 0]?) : SysSp w' g n bs cps s :=
  ⟨H.sq, fun i hi => (World.cell?_of_block (w := w) (a := ⟨g, i * 2, none⟩) hg).trans (H.a i hi), fun i hi => (World.cell?_of_block (w := w) (a := ⟨g, i * 2 + 1, none⟩) hg).trans (H.b i hi), fun o => (World.frozen?_of_block (w := w) (a := ⟨g, o, none⟩) hg).trans (H.ofz o), fun i hi => (H.row i hi).block (hb i hi), H.b64, H.nd, H.gb, H.len, H.lenc⟩
theorem SysSp.ext {w w' : World} {g n : Nat} {bs cps : List Nat} {s : Sys} (H : SysSp w g n bs cps s) (h0 : 0 < n) (x : Ext w w') : SysSp w' g n bs cps s :=
  H.blocks (x.bl.block _ (cell_lt (H.a 0 h0))) (fun i hi => x.bl.block _ (H.lt hi))
/-- Rows k and p change places. -/
def swp (w : World) (g k p : Nat) (Ap Bp Ak Bk : Value) : World := (((w.setCell ⟨g, k * 2, none⟩ Ap).setCell ⟨g, k * 2 + 1, none⟩ Bp).setCell ⟨g, p * 2, none⟩ Ak).setCell ⟨g, p * 2 + 1, none⟩ Bk
theorem swp_block (w : World) (g k p : Nat) (Ap Bp Ak Bk : Value) (c : Nat) (h : c ≠ g) : (swp w g k p Ap Bp Ak Bk).heap[c]? = w.heap[c]? := (Below.heap_setCell _ _ _ _ h).trans ((Below.heap_setCell _ _ _ _ h).trans ((Below.heap_setCell _ _ _ _ h).trans (Below.heap_setCell _ _ _ _ h)))
theorem swp_mut (w : World) (g k p : Nat) (Ap Bp Ak Bk : Value) : Mut g w (swp w g k p Ap Bp Ak Bk) := ((((Mut.refl g w).setCell _ _).setCell _ _).setCell _ _).setCell _ _
theorem swp_cell {w : World} {g k p i o : Nat} {Ap Bp Ak Bk x0 x1 y0 y1 v : Value} (ho : o < 2) (c0 : w.cell? ⟨g, k * 2, none⟩ = some x0) (c1 : w.cell? ⟨g, k * 2 + 1, none⟩ = some x1) (c2 : w.cell? ⟨g, p * 2, none⟩ = some y0) (c3 : w.cell? ⟨g, p * 2 + 1, none⟩ = some y1) (hv : w.cell? ⟨g, i * 2 + o, none⟩ = some v) :
    (swp w g k p Ap Bp Ak Bk).cell? ⟨g, i * 2 + o, none⟩ = some (if i = p then (if o = 0 then Ak else Bk) else if i = k then (if o = 0 then Ap else Bp) else v) := by
  have ne : ∀ {a b : Nat} {W : World} {u : Value}, a ≠ b → (W.setCell ⟨g, a, none⟩ u).cell? ⟨g, b, none⟩ = W.cell? ⟨g, b, none⟩ := fun {a b W u} h => World.cell?_setCell_other _ _ _ _ (by intro e; simp only [Addr.mk.injEq] at e; omega)
  have ex : ∀ {W : World} {a b : Nat} {u x : Value}, W.cell? ⟨g, b, none⟩ = some x → ∃ y, (W.setCell ⟨g, a, none⟩ u).cell? ⟨g, b, none⟩ = some y := fun {W a b u x} h => by
    by_cases e : a = b
    · subst e; exact ⟨u, World.cell?_setCell_same _ _ _ h⟩
    · exact ⟨x, (ne e).trans h⟩
  obtain ⟨z1, e1⟩ := ex (a := k * 2) (u := Ap) c1
  obtain ⟨z2, e2⟩ := ex (a := k * 2) (u := Ap) c2
  obtain ⟨z2', e2'⟩ := ex (a := k * 2 + 1) (u := Bp) e2
  obtain ⟨z3, e3⟩ := ex (a := k * 2) (u := Ap) c3
  obtain ⟨z3', e3'⟩ := ex (a := k * 2 + 1) (u := Bp) e3
  obtain ⟨z3'', e3''⟩ := ex (a := p * 2) (u := Ak) e3'
  unfold swp
  have h2 : o = 0 ∨ o = 1 := by omega
  by_cases hp : i = p
  · subst hp
    rw [if_pos rfl]
    rcases h2 with rfl | rfl
    · rw [if_pos rfl]
      simp only [Nat.add_zero]
      rw [ne (by omega), World.cell?_setCell_same _ _ _ e2']
    · rw [if_neg (by omega), World.cell?_setCell_same _ _ _ e3'']
  · rw [if_neg hp]
    by_cases hk : i = k
    · subst hk
      rw [if_pos rfl]
      rcases h2 with rfl | rfl
      · rw [if_pos rfl]
        simp only [Nat.add_zero]
        rw [ne (by omega), ne (by omega), ne (by omega), World.cell?_setCell_same _ _ _ c0]
      · rw [if_neg (by omega), ne (by omega), ne (by omega), World.cell?_setCell_same _ _ _ e1]
    · rw [if_neg hk, ne (by omega), ne (by omega), ne (by omega), ne (by omega), hv]
theorem SysSp.swap {w : World} {g n : Nat} {bs cps : List Nat} {s : Sys} (H : SysSp w g n bs cps s) {k p : Nat} (hk : k < n) (hp : p < n) :
    SysSp (swp w g k p (.slice (some ⟨bs.getD p 0, 0, none⟩) n (cps.getD p 0)) (.float .f64 (s.rt p)) (.slice (some ⟨bs.getD k 0, 0, none⟩) n (cps.getD k 0)) (.float .f64 (s.rt k))) g n (swapL bs k p 0) (swapL cps k p 0) (s.swap k p) := by
  have hl := H.len
  have hlc := H.lenc
  have hs := H.sq.1
  have hs2 := H.sq.2.1
  have hb := fun c h => swp_block w g k p (.slice (some ⟨bs.getD p 0, 0, none⟩) n (cps.getD p 0)) (.float .f64 (s.rt p)) (.slice (some ⟨bs.getD k 0, 0, none⟩) n (cps.getD k 0)) (.float .f64 (s.rt k)) c h
  have e1 : ∀ i, i < n → ∃ j, j < n ∧ (swapL bs k p 0).getD i 0 = bs.getD j 0 ∧ (swapL cps k p 0).getD i 0 = cps.getD j 0 ∧ (swapL s.1 k p []).getD i [] = s.1.getD j [] ∧ (swapL s.2 k p 0).getD i 0 = s.2.getD j 0 ∧ (j = if i = p then k else if i = k then p else i) := fun i hi => by
    refine ⟨if i = p then k else if i = k then p else i, by split <;> (try split) <;> omega, swapL_getD _ _ _ _ _ (by omega) (by omega), swapL_getD _ _ _ _ _ (by omega) (by omega), swapL_getD _ _ _ _ _ (by omega) (by omega), swapL_getD _ _ _ _ _ (by omega) (by omega), rfl⟩
  have c0 := H.a k hk
  have c1 := H.b k hk
  have c2 := H.a p hp
  have c3 := H.b p hp
  refine ⟨H.sq.swap k p hk hp, fun i hi => ?_, fun i hi => ?_, fun o => ((swp_mut ..).fz _).trans (H.ofz o), fun i hi => ?_, fun i => ?_, fun i j hi hj hij => ?_, fun i hi => ?_, by rw [swapL_len]; exact hl, by rw [swapL_len]; exact hlc⟩
  · obtain ⟨j, hj, q1, q2, q3, q4, a⟩ := e1 i hi
    rw [q1, q2]
    have q := swp_cell (w := w) (g := g) (k := k) (p := p) (i := i) (o := 0) (Ap := .slice (some ⟨bs.getD p 0, 0, none⟩) n (cps.getD p 0)) (Bp := .float .f64 (s.rt p)) (Ak := .slice (some ⟨bs.getD k 0, 0, none⟩) n (cps.getD k 0)) (Bk := .float .f64 (s.rt k)) (by omega) c0 c1 c2 c3 (H.a i hi)
    rw [Nat.add_zero] at q
    rw [q, a]
    split
    · rfl
    · split <;> rfl
  · obtain ⟨j, hj, q1, q2, q3, q4, a⟩ := e1 i hi
    have q := swp_cell (w := w) (g := g) (k := k) (p := p) (i := i) (o := 1) (Ap := .slice (some ⟨bs.getD p 0, 0, none⟩) n (cps.getD p 0)) (Bp := .float .f64 (s.rt p)) (Ak := .slice (some ⟨bs.getD k 0, 0, none⟩) n (cps.getD k 0)) (Bk := .float .f64 (s.rt k)) (by omega) c0 c1 c2 c3 (H.b i hi)
    rw [q]
    show _ = some (Value.float .f64 ((swapL s.2 k p 0).getD i 0))
    rw [q4, a]
    split
    · rfl
    · split <;> rfl
  · obtain ⟨j, hj, q1, q2, q3, q4, a⟩ := e1 i hi
    show FRow _ _ ((swapL s.1 k p []).getD i [])
    rw [q1, q3]
    exact (H.row j hj).block (hb _ (H.gb j hj))
  · show B64 ((swapL s.2 k p 0).getD i 0)
    rw [swapL_getD _ _ _ _ _ (by omega) (by omega)]
    exact H.b64 _
  · obtain ⟨i', hi', q1, _, _, _, a⟩ := e1 i hi
    obtain ⟨j', hj', q1', _, _, _, b⟩ := e1 j hj
    rw [q1, q1']
    refine H.nd i' j' hi' hj' ?_
    rw [a, b]
    split <;> split <;> (try split) <;> (try split) <;> omega
  · obtain ⟨j, hj, q1, _⟩ := e1 i hi
    rw [q1]; exact H.gb j hj
/-- Row i and its right side are written anew. -/
theorem SysSp.step {w w' : World} {g n : Nat} {bs cps : List Nat} {s : Sys} (H : SysSp w g n bs cps s) {i : Nat} (hi : i < n) {Cur : List Nat} {y : Nat} (hy : B64 y) (ha : ∀ j, j < n → w'.cell? ⟨g, j * 2, none⟩ = w.cell? ⟨g, j * 2, none⟩) (hb1 : ∀ j, j < n → j ≠ i → w'.cell? ⟨g, j * 2 + 1, none⟩ = w.cell? ⟨g, j * 2 + 1, none⟩) (hbi : w'.cell? ⟨g, i * 2 + 1, none⟩ = some (.float .f64 y)) (hf : ∀ o, w'.frozen? ⟨g, o, none⟩ = w.frozen? ⟨g, o, none⟩)
    (hc : FRow w' (bs.getD i 0) Cur) (hcl : Cur.length = n) (hb : ∀ j, j < n → j ≠ i → w'.heap[bs.getD j 0]? = w.heap[bs.getD j 0]?) : SysSp w' g n bs cps (s.1.set i Cur, s.2.set i y) := by
  have hrt : ∀ j, Sys.rt (s.1.set i Cur, s.2.set i y) j = if i = j then y else s.rt j := fun j => by
    show (s.2.set i y).getD j 0 = _
    rw [getD_set]
    by_cases e : i = j
    · subst e; rw [if_pos ⟨rfl, by rw [H.sq.2.1]; exact hi⟩, if_pos rfl]
    · rw [if_neg (fun q => e q.1), if_neg e]; rfl
  refine ⟨⟨by simp [H.sq.1], by simp [H.sq.2.1], fun j hj => ?_⟩, fun j hj => (ha j hj).trans (H.a j hj), fun j hj => ?_, fun o => (hf o).trans (H.ofz o), fun j hj => ?_, fun j => ?_, H.nd, H.gb, H.len, H.lenc⟩
  · show ((s.1.set i Cur).getD j []).length = n
    rw [getD_set]
    split
    · exact hcl
    · exact H.sq.2.2 j hj
  · rw [hrt]
    by_cases e : i = j
    · subst e; rw [if_pos rfl]; exact hbi
    · rw [if_neg e]; exact (hb1 j hj (Ne.symm e)).trans (H.b j hj)
  · show FRow w' (bs.getD j 0) ((s.1.set i Cur).getD j [])
    rw [getD_set]
    by_cases e : i = j
    · subst e
      rw [if_pos ⟨rfl, by rw [H.sq.1]; exact hi⟩]
      exact hc
    · rw [if_neg (fun q => e q.1)]
      exact (H.row j hj).block (hb j hj (Ne.symm e))
  · rw [hrt]; split
    · exact hy
    · exact H.b64 j
/-- The blocks of the specification's system. -/
def InG (g n : Nat) (bs : List Nat) (b : Nat) : Prop := b = g ∨ ∃ i, i < n ∧ b = bs.getD i 0
theorem Ext.drewN' (w : World) (n : Nat) : Ext w (w.drewN n) := (Ext.refl w).drewN n
end Go.Proofs.YtfhcpicddegblaaGreat
