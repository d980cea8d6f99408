import Derived.Test.YtiekkninnjffpaaM3
import Derived.Test.YtiekkninnjffpaaM1
import Derived.Test.YtiekkninnjffpaaM5
import Derived.Test.YtiekkninnjffpaaPlaces
namespace Go.Proofs.Ytiekkninnjffpaa
set_option linter.unusedSimpArgs false
set_option linter.unusedVariables false

/-- The indexes of element k in row-major order. -/
def idxL : List Int → Nat → List Int
  | [], _ => []
  | n :: ns, k => ((k / plen ns % n.toNat : Nat) : Int) :: idxL ns k
def dotL : List Int → List Int → Int
  | s :: ss, i :: is => i * s + dotL ss is
  | _, _ => 0
theorem idxL_len (xs : List Int) (k : Nat) : (idxL xs k).length = xs.length := by
  induction xs with
  | nil => rfl
  | cons n ns ih => simp [idxL, ih]
theorem idxL_mod (xs : List Int) (c k : Nat) : idxL xs (k % (c * plen xs)) = idxL xs k := by
  induction xs generalizing c with
  | nil => rfl
  | cons n ns ih =>
    unfold idxL
    have e : c * plen (n :: ns) = (c * n.toNat) * plen ns := by rw [plen, Nat.mul_assoc]
    rw [e, ih]
    congr 2
    rw [Nat.mod_mul_left_div_self, Nat.mod_mul_left_mod]
theorem flat_at {F : Nat → List Int} {m : Nat} (hm : ∀ i, (F i).length = m) (h0 : 0 < m) : ∀ n k, k < n * m → ((List.range n).flatMap F)[k]? = (F (k / m))[k % m]? := by
  intro n
  induction n with
  | zero => intro k hk; omega
  | succ n ih =>
    intro k hk
    have hl : ((List.range n).flatMap F).length = n * m := by
      clear ih hk
      induction n with
      | zero => simp
      | succ n ih => rw [List.range_succ, List.flatMap_append, List.length_append, ih, Nat.succ_mul]; simp [hm]
    rw [List.range_succ, List.flatMap_append]
    by_cases h : k < n * m
    · rw [List.getElem?_append_left (by omega)]
      exact ih k h
    · rw [List.getElem?_append_right (by omega), hl]
      rw [Nat.succ_mul] at hk
      have e1 : k / m = n := by
        rw [Nat.div_eq_iff h0]
        constructor
        · omega
        · omega
      have e2 : k - n * m = k % m := by
        have := Nat.div_add_mod k m
        rw [e1, Nat.mul_comm] at this
        omega
      rw [e1, e2]
      simp
theorem places_at : ∀ (xs ss : List Int) (off : Int) (k : Nat), xs.length = ss.length → (∀ n ∈ xs, 1 ≤ n) → k < plen xs → (places xs ss off)[k]? = some (off + dotL ss (idxL xs k))
  | [], ss, off, k, _, _, hk => by
    have : k = 0 := by simp [plen] at hk; omega
    subst this
    cases ss <;> simp [places, dotL, idxL]
  | n :: ns, [], off, k, h, _, _ => by simp at h
  | n :: ns, s :: ss, off, k, h, hp, hk => by
    have hl : ns.length = ss.length := by simpa using h
    have hp' : ∀ m ∈ ns, 1 ≤ m := fun m hm => hp m (List.mem_cons_of_mem _ hm)
    have h1 := plen_pos ns hp'
    rw [plen] at hk
    rw [places, flat_at (fun i => places_len ns ss _ hl) (by omega) n.toNat k hk]
    rw [places_at ns ss _ (k % plen ns) hl hp' (Nat.mod_lt _ (by omega))]
    have e := idxL_mod ns 1 k
    rw [Nat.one_mul] at e
    rw [e]
    have hd : k / plen ns < n.toNat := (Nat.div_lt_iff_lt_mul (by omega)).2 hk
    show some _ = some (off + dotL (s :: ss) (((k / plen ns % n.toNat : Nat) : Int) :: idxL ns k))
    rw [Nat.mod_eq_of_lt hd, dotL]
    congr 1
    omega
end Go.Proofs.Ytiekkninnjffpaa
namespace Go.Proofs.Ytiekkninnjffpaa
open Go.ChangeShapes Go.RowKit
set_option linter.unusedSimpArgs false
set_option linter.unusedVariables false

set_option maxRecDepth 100000 in
set_option maxHeartbeats 1000000 in
theorem lwSame_any {w : World} {v u : Value} {xs ys : List Int} (h : Ints w v xs) (g : Ints w u ys) (hl : xs.length ≤ 1000000000000) :
    Calls Try.prog 49 #[v, u] w fun e w' => e = .returned (.bool (decide (xs = ys))) ∧ Ext w w' := by
  obtain ⟨sa, cap, rfl, hx⟩ := h
  obtain ⟨ta, dap, rfl, hy⟩ := g
  have HX := hide hx
  have HY := hide hy
  clear hx hy
  by_cases hle : xs.length = ys.length
  · have hle' : (xs.length : Int) = (ys.length : Int) := by omega
    go_enter Try.func49, Try.ntmps49
    go_wp2
    go_loopw [5] (fun i wr => ∃ k : Nat, i = .int .i64 k ∧ k ≤ xs.length ∧ Hid (∀ j, j < k → xs.getD j 0 = ys.getD j 0) ∧ Ext w wr) (fun i _ => xs.length - (intOf i).toNat)
    case atStart => exact ⟨0, rfl, by omega, fun j hj => absurd hj (Nat.not_lt_zero _), Ext.refl w⟩
    case round =>
      obtain ⟨k, rfl, hk, he, hw⟩ := hrel
      have HW := hide hw
      clear hw
      by_cases hlt : k < xs.length
      · rcases HX.out with h0 | ⟨b, off, rfl, hrow⟩
        · rw [h0] at hlt; simp at hlt
        rcases HY.out with h0 | ⟨b2, off2, rfl, hrow2⟩
        · rw [hle, h0] at hlt; simp at hlt
        have q0 := HW.out.box (hrow k hlt)
        have q1 := HW.out.box (hrow2 k (by omega))
        have hk0 : (0 : Int) ≤ (k : Int) := Int.natCast_nonneg _
        have hk1 : (k : Int) < (xs.length : Int) := by omega
        have hk2 : (k : Int) < (ys.length : Int) := by omega
        by_cases hq : xs.getD k 0 = ys.getD k 0
        · have he2 : Hid (∀ j, j < k + 1 → xs.getD j 0 = ys.getD j 0) := fun j hj => by
            by_cases e : j = k
            · rw [e]; exact hq
            · exact he.out j (by omega)
          rw [hq] at q0
          clear hq
          generalize ys.getD k 0 = x at q0 q1
          clear hrow hrow2
          go_wp2_with fail
          go_region
          all_goals go_wp2
          all_goals go_roundw
          all_goals first | exact ⟨k + 1, by go_num, by omega, he2, HW.out.drew⟩ | (simp [intOf]; omega)
        · have hne : ¬ xs = ys := fun e => hq (by rw [e])
          have hd : Hid (decide (xs = ys) = false) := decide_eq_false hne
          generalize xs.getD k 0 = x at q0 hq
          generalize ys.getD k 0 = y at q1 hq
          have hq2 : (x != y) = true := by simp [hq]
          clear hrow hrow2 hne
          go_wp2_with fail
          go_region
          all_goals go_wp2
          all_goals go_ret
          all_goals exact ⟨ret_bool hd.out.symm, HW.out.drew⟩
      · have hkk : k = xs.length := by omega
        subst hkk
        have hd : Hid (decide (xs = ys) = true) := decide_eq_true (eq_of_getD hle he.out)
        go_wp2
        go_ret
        exact ⟨ret_bool hd.out.symm, HW.out⟩
  · have hd : Hid (decide (xs = ys) = false) := decide_eq_false (fun e => hle (by rw [e]))
    have hne : ¬ (xs.length : Int) = (ys.length : Int) := by omega
    go_enter Try.func49, Try.ntmps49
    go_wp2
    go_ret
    exact ⟨ret_bool hd.out.symm, Ext.refl w⟩

set_option maxRecDepth 100000 in
set_option maxHeartbeats 1000000 in
theorem lwCount_any {w : World} {v : Value} {xs : List Int} (h : Ints w v xs) (h4 : xs.length ≤ 4) (hr : InR xs xs.length) :
    Calls Try.prog 77 #[v] w fun e w' => e = .returned (.int .i64 (prod xs)) ∧ w' = w := by
  obtain ⟨sa, cap, rfl, hx⟩ := h
  have HX := hide hx
  have HR := hide hr
  clear hx hr
  have h4' : (xs.length : Int) ≤ 4 := by omega
  go_enter Try.func77, Try.ntmps77
  go_wp2
  go_loopw [3, 4] (fun m i wr => ∃ k : Nat, i = .int .i64 k ∧ m = .int .i64 (prod (xs.take k)) ∧ k ≤ xs.length ∧ wr = w) (fun m i _ => xs.length - (intOf i).toNat)
  case atStart => exact ⟨0, rfl, rfl, by omega, rfl⟩
  case round =>
    obtain ⟨k, rfl, rfl, hk, rfl⟩ := hrel
    have hb := prod_bd xs k (by omega) hk (fun j hj => HR.out j (by omega))
    have hb2 := bd_le k
    by_cases hlt : k < xs.length
    · rcases HX.out with h0 | ⟨b, off, rfl, hrow⟩
      · rw [h0] at hlt; simp at hlt
      have q0 := hrow k hlt
      clear hrow
      have hk0 : (0 : Int) ≤ (k : Int) := Int.natCast_nonneg _
      have hk1 : (k : Int) < (xs.length : Int) := by omega
      have hp := prod_take xs k hlt
      have hB := prod_bd xs (k + 1) (by omega) (by omega) (fun j hj => HR.out j (by omega))
      have hB2 := bd_le (k + 1)
      generalize bd (k + 1) = B1 at hB hB2
      generalize bd k = B0 at hb hb2
      generalize hP1 : prod (xs.take (k + 1)) = P1 at hp hB
      have HP1 := hide hP1
      clear hP1
      generalize prod (xs.take k) = P0 at hp hb ⊢
      generalize xs.getD k 0 = x at q0 hp
      have hw1 : wrap64 (P0 * x) = P1 := by rw [← hp]; unfold wrap64; omega
      clear hp
      go_wp2
      go_roundw
      · exact ⟨k + 1, by go_num, by first | (rw [HP1.out]; done) | (rw [HP1.out, hw1]), by omega, by trivial⟩
      · simp [intOf]; omega
    · have hkk : k = xs.length := by omega
      subst hkk
      rw [List.take_length]
      go_wp2
      go_ret
      exact ⟨rfl, rfl⟩
end Go.Proofs.Ytiekkninnjffpaa
namespace Go.Proofs.Ytiekkninnjffpaa
open Go.ChangeShapes Go.RowKit
set_option linter.unusedSimpArgs false
set_option linter.unusedVariables false

theorem idxL_getD : ∀ (xs : List Int) (k a : Nat), a < xs.length → (idxL xs k).getD a 0 = ((k / plen (xs.drop (a + 1)) % (xs.getD a 0).toNat : Nat) : Int)
  | [], k, a, h => by simp at h
  | n :: ns, k, 0, _ => by simp [idxL]
  | n :: ns, k, a + 1, h => by
    have := idxL_getD ns k a (by simpa using h)
    simpa [idxL] using this
theorem plen_drop : ∀ (xs : List Int) (a : Nat), a < xs.length → plen (xs.drop a) = (xs.getD a 0).toNat * plen (xs.drop (a + 1))
  | [], a, h => by simp at h
  | n :: ns, 0, _ => by simp [plen]
  | n :: ns, a + 1, h => by simpa using plen_drop ns a (by simpa using h)
/-- The last m are in, the rest is 0. -/
def tailF (xs : List Int) (m : Nat) : List Int := List.replicate (xs.length - m) 0 ++ xs.drop (xs.length - m)
theorem tailF_len (xs : List Int) (m : Nat) : (tailF xs m).length = xs.length := by unfold tailF; simp
theorem tailF_zero (xs : List Int) : tailF xs 0 = List.replicate xs.length 0 := by unfold tailF; simp
theorem tailF_full (xs : List Int) : tailF xs xs.length = xs := by unfold tailF; simp
theorem tailF_set (xs : List Int) (m : Nat) (hm : m < xs.length) : (tailF xs m).set (xs.length - 1 - m) (xs.getD (xs.length - 1 - m) 0) = tailF xs (m + 1) := by
  unfold tailF
  apply List.ext_getElem?
  intro j
  simp only [List.getElem?_set, List.getElem?_append, List.length_append, List.length_replicate, List.length_drop, List.getElem?_replicate, List.getElem?_drop, List.getD_eq_getElem?_getD]
  by_cases e : xs.length - 1 - m = j
  · subst e
    have h1 : xs.length - 1 - m < xs.length - m + (xs.length - (xs.length - m)) := by omega
    have h2 : ¬ xs.length - 1 - m < xs.length - (m + 1) := by omega
    have h3 : xs.length - (m + 1) + (xs.length - 1 - m - (xs.length - (m + 1))) = xs.length - 1 - m := by omega
    rw [if_pos rfl, if_pos h1, if_neg h2, h3, List.getElem?_eq_getElem (by omega)]
    rfl
  · rw [if_neg e]
    by_cases h : j < xs.length - (m + 1)
    · have h2 : j < xs.length - m := by omega
      rw [if_pos h2, if_pos h2, if_pos h, if_pos h]
    · have h2 : ¬ j < xs.length - m := by omega
      rw [if_neg h2, if_neg h]
      congr 1
      omega

set_option maxRecDepth 100000 in
set_option maxHeartbeats 1000000 in
theorem lwIndex_any {w : World} {v : Value} {xs : List Int} (h : Ints w v xs) (h4 : xs.length ≤ 4) (hp : ∀ j, j < xs.length → 1 ≤ xs.getD j 0 ∧ xs.getD j 0 ≤ 4096) (k : Nat) (hk : k ≤ 4096) :
    Calls Try.prog 78 #[v, .int .i64 (k : Int)] w fun e w' => e = .returned (.slice (some ⟨w.heap.size, 0, none⟩) xs.length xs.length) ∧ Row w' w.heap.size 0 (idxL xs k) ∧ Ext w w' ∧ w.heap.size < w'.heap.size := by
  obtain ⟨i0, hi0, hz0, hz1, hz2⟩ := info_parts info2
  obtain ⟨sa, cap, rfl, hx⟩ := h
  have hmk := run_make (P := Try.prog) w 22 2 i0 (.int .i64 0) Try.underlying22 hi0 hz0 .i64 .i64 xs.length xs.length (by omega) (Int.le_refl _) (by rw [hz2]; omega) (by omega)
  simp only [Int.toNat_natCast] at hmk
  have HX := hide hx
  have HPz := hide hp
  clear hx hp
  have R0 := hide (row_new w xs.length)
  have hll := hide (idxL_len xs k)
  go_enter Try.func78, Try.ntmps78
  go_wp2
  go_loopw [1, 6] (fun z i wr => ∃ m : Nat, i = .int .i64 ((xs.length : Int) - 1 - m) ∧ m ≤ xs.length ∧ z = .int .i64 ((k / plen (xs.drop (xs.length - m)) : Nat) : Int) ∧ Row wr w.heap.size 0 (tailF (idxL xs k) m) ∧ Ext w wr ∧ w.heap.size < wr.heap.size) (fun z i _ => ((intOf i) + 1).toNat)
  case atStart => exact ⟨0, by simp, by omega, by simp [plen], by rw [tailF_zero, hll.out]; exact R0.out, (Ext.refl w).alloc _ _, by simp⟩
  case round =>
    obtain ⟨m, rfl, hm, rfl, hr, he, hs⟩ := hrel
    have HR := hide hr
    have HE := hide he
    clear hr he
    have hl := hll.out
    by_cases hlt : m < xs.length
    · obtain ⟨a, ha⟩ : ∃ a : Nat, a = xs.length - 1 - m := ⟨_, rfl⟩
      have hal : a < xs.length := by omega
      have hai : (xs.length : Int) - 1 - m = (a : Int) := by omega
      rcases HX.out with h0 | ⟨b, off, rfl, hrow⟩
      · rw [h0] at hlt; simp at hlt
      have q0 := HE.out.box (hrow a hal)
      have hpa := HPz.out a hal
      have hbw := cell_lt (hrow a hal)
      have e1 : xs.length - m = a + 1 := by omega
      have e2 : xs.length - (m + 1) = a := by omega
      have hset := tailF_set (idxL xs k) m (by omega)
      have hgd := idxL_getD xs k a hal
      rw [hl, ← ha, hgd] at hset
      have hdr := plen_drop xs a hal
      have hdiv : k / plen (xs.drop a) = k / plen (xs.drop (a + 1)) / (xs.getD a 0).toNat := by rw [hdr, Nat.mul_comm, Nat.div_div_eq_div_mul]
      have hle : k / plen (xs.drop (a + 1)) ≤ 4096 := Nat.le_trans (Nat.div_le_self _ _) hk
      have H2 := hide e2
      have hq1 := HR.out a (by rw [tailF_len, hl]; exact hal)
      have HSt := hide (HR.out.set (k := a) (by rw [tailF_len, hl]; exact hal) (((k / plen (xs.drop (a + 1)) % (xs.getD a 0).toNat : Nat) : Int)))
      rw [hset] at HSt
      have HDv := hide hdiv
      rw [hai, e1]
      obtain ⟨N, hN⟩ : ∃ N : Nat, xs.getD a 0 = (N : Int) := ⟨(xs.getD a 0).toNat, by omega⟩
      rw [hN] at q0 hpa HSt HDv
      rw [Int.toNat_natCast] at HSt HDv
      generalize k / plen (xs.drop (a + 1)) = K at hle HSt HDv ⊢
      have qf := fun o => HE.out.unfrozen (Nat.le_refl w.heap.size) o
      have ha0 : (0 : Int) ≤ (a : Int) := Int.natCast_nonneg _
      have ha1 : (a : Int) < (xs.length : Int) := by omega
      have hN0 : ((N : Int) == 0) = false := by simp; omega
      have hN1 : ¬ (N : Int) = 0 := by omega
      have hrem : Int.tmod (K : Int) (N : Int) = ((K % N : Nat) : Int) := by rw [Int.tmod_eq_emod_of_nonneg (Int.natCast_nonneg _)]; rfl
      have hquo : Int.tdiv (K : Int) (N : Int) = ((K / N : Nat) : Int) := by rw [Int.tdiv_eq_ediv_of_nonneg (Int.natCast_nonneg _)]; rfl
      have hlt1 : K % N < N := Nat.mod_lt _ (by omega)
      have hlt2 : K / N ≤ K := Nat.div_le_self _ _
      clear hrow hset hgd hdr hdiv e1 e2 hN ha hll HPz
      have em : ((K % N : Nat) : Int) = (K : Int) % (N : Int) := rfl
      have ed : ((K / N : Nat) : Int) = (K : Int) / (N : Int) := rfl
      rw [em] at HSt
      have q0a : (wr.setCell ⟨w.heap.size, a, none⟩ (.int .i64 ((K : Int) % (N : Int)))).cell? ⟨b, off + a, none⟩ = some (.int .i64 (N : Int)) := by
        rw [World.cell?_setCell_other _ _ _ _ (by intro e; simp only [Addr.mk.injEq] at e; omega)]; exact q0
      have HEx := hide (((Mut.refl w.heap.size wr).setCell a (.int .i64 ((K : Int) % (N : Int)))).ext HE.out (Nat.le_refl _))
      have hsx : w.heap.size < (wr.setCell ⟨w.heap.size, a, none⟩ (.int .i64 ((K : Int) % (N : Int)))).heap.size := by simp [World.setCell]; omega
      have Hsx := hide hsx
      clear hsx
      rw [Nat.zero_add] at hq1 HSt
      generalize (tailF (idxL xs k) m).getD a 0 = Y at hq1
      go_wp2
      go_roundw
      · refine ⟨m + 1, by congr 1; push_cast; omega, by omega, ?_, HSt.out, HEx.out, Hsx.out⟩
        rw [H2.out, HDv.out, ← ed]
        have hw : wrap64 (((K / N : Nat) : Int)) = ((K / N : Nat) : Int) := by
          have h0 : (0 : Int) ≤ ((K / N : Nat) : Int) := Int.natCast_nonneg _
          have h1 : ((K / N : Nat) : Int) ≤ 4096 := by exact_mod_cast Nat.le_trans hlt2 hle
          generalize ((K / N : Nat) : Int) = Z at h0 h1 ⊢
          unfold wrap64; omega
        rw [hw]
      · simp [intOf]
    · have hmm : m = xs.length := by omega
      subst hmm
      have h1 : (xs.length : Int) - 1 - xs.length = -1 := by omega
      rw [h1]
      go_wp2
      go_ret
      have := HR.out
      rw [← hl, tailF_full] at this
      exact ⟨rfl, this, HE.out, hs⟩
end Go.Proofs.Ytiekkninnjffpaa
namespace Go.Proofs.Ytiekkninnjffpaa
set_option linter.unusedSimpArgs false
set_option linter.unusedVariables false

/-- The place grows by one axis. -/
theorem dotL_take : ∀ (ss is : List Int) (k : Nat), k < ss.length → k < is.length → dotL (ss.take (k + 1)) (is.take (k + 1)) = dotL (ss.take k) (is.take k) + is.getD k 0 * ss.getD k 0
  | [], is, k, h, _ => by simp at h
  | s :: ss, [], k, _, h => by simp at h
  | s :: ss, i :: is, 0, _, _ => by cases ss <;> cases is <;> simp [dotL]
  | s :: ss, i :: is, k + 1, h1, h2 => by
    have := dotL_take ss is k (by simpa using h1) (by simpa using h2)
    simp only [List.take_succ_cons, dotL, List.getD_cons_succ]
    rw [this]
    omega
/-- A slice: the stride of one axis is a multiple. -/
theorem dot_set : ∀ (ss is : List Int) (a : Nat) (t : Int), dotL (ss.set a (ss.getD a 0 * t)) is = dotL ss (is.set a (is.getD a 0 * t))
  | [], is, a, t => by cases is <;> simp [dotL]
  | s :: ss, [], a, t => by cases a <;> simp [dotL]
  | s :: ss, i :: is, 0, t => by
    simp only [List.set_cons_zero, dotL, List.getD_cons_zero]
    rw [Int.mul_comm s t, Int.mul_assoc]
  | s :: ss, i :: is, a + 1, t => by
    simp only [List.set_cons_succ, dotL, List.getD_cons_succ]
    rw [dot_set ss is a t]
/-- Axes of stride 0 in front count for nothing. -/
theorem dot_zeros : ∀ (p : Nat) (ss is : List Int), dotL (List.replicate p 0 ++ ss) is = dotL ss (is.drop p)
  | 0, ss, is => by simp
  | p + 1, ss, [] => by cases ss <;> simp [List.replicate_succ, dotL]
  | p + 1, ss, i :: is => by
    simp only [List.replicate_succ, List.cons_append, dotL, List.drop_succ_cons]
    rw [dot_zeros p ss is]
    omega
/-- Two lists of strides that differ at indexes that are 0 alone. -/
theorem dot_congr : ∀ (ss ts is js : List Int), ss.length = ts.length → is.length = js.length → (∀ k, k < ss.length → is.getD k 0 * ss.getD k 0 = js.getD k 0 * ts.getD k 0) → dotL ss is = dotL ts js
  | [], [], is, js, _, _, _ => by cases is <;> cases js <;> simp [dotL]
  | [], _ :: _, _, _, h, _, _ => by simp at h
  | _ :: _, [], _, _, h, _, _ => by simp at h
  | s :: ss, t :: ts, [], [], _, _, _ => by simp [dotL]
  | s :: ss, t :: ts, [], _ :: _, _, h, _ => by simp at h
  | s :: ss, t :: ts, _ :: _, [], _, h, _ => by simp at h
  | s :: ss, t :: ts, i :: is, j :: js, h1, h2, h => by
    have h0 := h 0 (by simp)
    simp only [List.getD_cons_zero] at h0
    have := dot_congr ss ts is js (by simpa using h1) (by simpa using h2) (fun k hk => by simpa using h (k + 1) (by simpa using hk))
    simp only [dotL]
    rw [h0, this]
/-- The index along an axis of length 1 is 0. -/
theorem idxL_one (xs : List Int) (k a : Nat) (h : a < xs.length) (h1 : xs.getD a 0 = 1) : (idxL xs k).getD a 0 = 0 := by
  induction xs generalizing a with
  | nil => simp at h
  | cons n ns ih =>
    cases a with
    | zero =>
      simp only [List.getD_cons_zero] at h1
      subst h1
      simp [idxL, Nat.mod_one]
    | succ a =>
      simp only [List.getD_cons_succ] at h1
      simpa [idxL] using ih a (by simpa using h) h1
/-- What the law takes for the index along axis i: the last one that the permutation sends there. -/
def pick : List Int → List Int → Int → Int → Int
  | p :: ps, x :: xs, i, acc => pick ps xs i (if p = i then x else acc)
  | _, _, _, acc => acc
theorem pick_not : ∀ (ps xs : List Int) (i acc : Int), i ∉ ps → pick ps xs i acc = acc
  | [], xs, i, acc, _ => by cases xs <;> rfl
  | p :: ps, [], i, acc, _ => rfl
  | p :: ps, x :: xs, i, acc, h => by
    have h1 : ¬ p = i := fun e => h (by rw [e]; exact List.mem_cons_self)
    have h2 : i ∉ ps := fun e => h (List.mem_cons_of_mem _ e)
    rw [pick, if_neg h1]
    exact pick_not ps xs i acc h2
theorem pick_cons (p : Int) (ps : List Int) (x : Int) (xs : List Int) (i : Int) (h : p ∉ ps) : pick (p :: ps) (x :: xs) i 0 = if p = i then x else pick ps xs i 0 := by
  rw [pick]
  by_cases e : p = i
  · subst e
    rw [if_pos rfl, if_pos rfl]
    exact pick_not ps xs p x h
  · rw [if_neg e, if_neg e]
theorem dot_put : ∀ (ss is : List Int) (a : Nat) (x : Int), a < is.length → dotL ss (is.set a x) = dotL ss is + (x - is.getD a 0) * ss.getD a 0
  | [], is, a, x, _ => by cases is <;> cases a <;> simp [dotL]
  | s :: ss, [], a, x, h => by simp at h
  | s :: ss, i :: is, 0, x, _ => by
    simp only [List.set_cons_zero, dotL, List.getD_cons_zero]
    rw [Int.sub_mul]
    omega
  | s :: ss, i :: is, a + 1, x, h => by
    simp only [List.set_cons_succ, dotL, List.getD_cons_succ]
    rw [dot_put ss is a x (by simpa using h)]
    omega
theorem dot_rep : ∀ (ss : List Int) (n : Nat), dotL ss (List.replicate n 0) = 0
  | [], n => by cases n <;> simp [dotL, List.replicate_succ]
  | s :: ss, 0 => by simp [dotL]
  | s :: ss, n + 1 => by simp only [List.replicate_succ, dotL, dot_rep ss n]; omega
theorem perm_dot (ss : List Int) : ∀ (perm is : List Int), perm.length = is.length → perm.Nodup → (∀ p ∈ perm, 0 ≤ p ∧ p < (ss.length : Int)) → dotL (perm.map fun p => ss.getD p.toNat 0) is = dotL ss ((List.range ss.length).map fun (i : Nat) => pick perm is (i : Int) 0)
  | [], [], _, _, _ => by
    have : ∀ n, dotL ss ((List.range n).map fun (i : Nat) => pick [] [] (i : Int) 0) = 0 := fun n => by
      have e : ((List.range n).map fun (i : Nat) => pick [] [] (i : Int) 0) = List.replicate n 0 := by
        apply List.ext_getElem
        · simp
        · intro j h1 h2; simp [pick]
      rw [e]
      exact dot_rep ss n
    rw [this]
    simp [dotL]
  | [], _ :: _, h, _, _ => by simp at h
  | _ :: _, [], h, _, _ => by simp at h
  | p :: ps, x :: xs, h, hn, hp => by
    have hnp : p ∉ ps := (List.nodup_cons.1 hn).1
    have ih := perm_dot ss ps xs (by simpa using h) (List.nodup_cons.1 hn).2 (fun q hq => hp q (List.mem_cons_of_mem _ hq))
    obtain ⟨h0, h1⟩ := hp p List.mem_cons_self
    have e : ((List.range ss.length).map fun (i : Nat) => pick (p :: ps) (x :: xs) (i : Int) 0) = ((List.range ss.length).map fun (i : Nat) => pick ps xs (i : Int) 0).set p.toNat x := by
      apply List.ext_getElem
      · simp
      · intro j g1 g2
        simp only [List.getElem_map, List.getElem_range, List.getElem_set]
        rw [pick_cons p ps x xs j hnp]
        by_cases q : p.toNat = j
        · rw [if_pos q, if_pos (by omega)]
        · rw [if_neg q, if_neg (by omega)]
    rw [e, dot_put _ _ _ _ (by simp; omega), ← ih]
    have hz : ((List.range ss.length).map fun (i : Nat) => pick ps xs (i : Int) 0).getD p.toNat 0 = 0 := by
      rw [List.getD_eq_getElem?_getD, List.getElem?_map, List.getElem?_range (by omega)]
      show pick ps xs ((p.toNat : Nat) : Int) 0 = 0
      rw [show ((p.toNat : Nat) : Int) = p by omega]
      exact pick_not ps xs p 0 hnp
    rw [hz, List.map_cons, dotL]
    rw [Int.sub_zero]
    omega
end Go.Proofs.Ytiekkninnjffpaa
namespace Go.Proofs.Ytiekkninnjffpaa
open Go.ChangeShapes Go.RowKit
set_option linter.unusedSimpArgs false
set_option linter.unusedVariables false

/-- What the law was handed: the view at block w.heap.size, and a list. -/
structure LB (w W : World) (vS vT vP : Value) (off : Int) (xs ss ys : List Int) : Prop where
  a0 : W.cell? ⟨w.heap.size, 0, none⟩ = some vS
  a1 : W.cell? ⟨w.heap.size, 1, none⟩ = some vT
  a2 : W.cell? ⟨w.heap.size, 2, none⟩ = some (.int .i64 off)
  hS : IntsB W 0 w.heap.size vS xs
  hT : IntsB W 0 w.heap.size vT ss
  hP : IntsB W 0 w.heap.size vP ys
  z : Below w.heap.size w W
theorem LB.keep {w W W' : World} {vS vT vP : Value} {off : Int} {xs ss ys : List Int} (h : LB w W vS vT vP off xs ss ys) (x : Bel W W') : LB w W' vS vT vP off xs ss ys :=
  ⟨x.box h.a0, x.box h.a1, x.box h.a2, h.hS.keep x, h.hT.keep x, h.hP.keep x, Below.trans h.z (Below.mono x (Below.size h.z))⟩
theorem LB.mIn {w W W' : World} {lo hi : Nat} {vS vT vP : Value} {off : Int} {xs ss ys : List Int} (h : LB w W vS vT vP off xs ss ys) (m : MIn lo hi W W') (hl : w.heap.size < lo) : LB w W' vS vT vP off xs ss ys :=
  ⟨m.box _ _ _ (by omega) h.a0, m.box _ _ _ (by omega) h.a1, m.box _ _ _ (by omega) h.a2, h.hS.mIn m (by omega), h.hT.mIn m (by omega), h.hP.mIn m (by omega), Below.trans h.z (Below.mono m.bl (by omega))⟩
theorem LB.start {w : World} {vS vT vP : Value} {off : Int} {xs ss ys : List Int} (hS : Ints w vS xs) (hT : Ints w vT ss) (hP : Ints w vP ys) : LB w (w.alloc (.cells #[vS, vT, .int .i64 off] 24)) vS vT vP off xs ss ys := by
  have x : Ext w (w.alloc (.cells #[vS, vT, .int .i64 off] 24)) := (Ext.refl w).alloc _ _
  have n := fun j => new_cell w #[vS, vT, .int .i64 off] 24 w.heap.size rfl j
  exact ⟨n 0, n 1, n 2, hS.bound.keep x.bl, hT.bound.keep x.bl, hP.bound.keep x.bl, x.bl⟩

/-- The answer of the specification, at block b. -/
structure LW (W : World) (lo b : Nat) (c : Int) (v u : Value) (o : Int) (L S : List Int) : Prop where
  c0 : W.cell? ⟨b, 0, none⟩ = some (.int .i64 c)
  c1 : W.cell? ⟨b, 1, none⟩ = some v
  c2 : W.cell? ⟨b, 2, none⟩ = some u
  c3 : W.cell? ⟨b, 3, none⟩ = some (.int .i64 o)
  hL : IntsB W lo b v L
  hS : IntsB W lo b u S
theorem LW.keep {W W' : World} {lo b : Nat} {c : Int} {v u : Value} {o : Int} {L S : List Int} (h : LW W lo b c v u o L S) (x : Bel W W') : LW W' lo b c v u o L S :=
  ⟨x.box h.c0, x.box h.c1, x.box h.c2, x.box h.c3, h.hL.keep x, h.hS.keep x⟩
theorem LW.mIn {W W' : World} {lo b l k : Nat} {c : Int} {v u : Value} {o : Int} {L S : List Int} (h : LW W lo b c v u o L S) (m : MIn l k W W') (hl : b < l) : LW W' lo b c v u o L S :=
  ⟨m.box _ _ _ (by omega) h.c0, m.box _ _ _ (by omega) h.c1, m.box _ _ _ (by omega) h.c2, m.box _ _ _ (by omega) h.c3, h.hL.mIn m (by omega), h.hS.mIn m (by omega)⟩
theorem LW.start {W : World} {lo : Nat} {c : Int} {v u : Value} {o : Int} {L S : List Int} (hL : IntsB W lo W.heap.size v L) (hS : IntsB W lo W.heap.size u S) : LW (W.alloc (.cells #[.int .i64 c, v, u, .int .i64 o] 43)) lo W.heap.size c v u o L S := by
  have x : Ext W (W.alloc (.cells #[.int .i64 c, v, u, .int .i64 o] 43)) := (Ext.refl W).alloc _ _
  have n := fun j => new_cell W #[.int .i64 c, v, u, .int .i64 o] 43 W.heap.size rfl j
  exact ⟨n 0, n 1, n 2, n 3, hL.keep x.bl, hS.keep x.bl⟩

/-- The answer of the program, at block bg, its lists at g and h. -/
structure LG (W : World) (bg g h : Nat) (c : Int) (v u : Value) (o : Int) (L S : List Int) : Prop where
  c0 : W.cell? ⟨bg, 0, none⟩ = some (.int .i64 c)
  c1 : W.cell? ⟨bg, 1, none⟩ = some v
  c2 : W.cell? ⟨bg, 2, none⟩ = some u
  c3 : W.cell? ⟨bg, 3, none⟩ = some (.int .i64 o)
  hL : IntsB W g (g + 1) v L
  hS : IntsB W h (h + 1) u S
  fL : FZ W v L
  fS : FZ W u S
theorem LG.keep {W W' : World} {bg g k : Nat} {c : Int} {v u : Value} {o : Int} {L S : List Int} (h : LG W bg g k c v u o L S) (x : Bel W W') : LG W' bg g k c v u o L S :=
  ⟨x.box h.c0, x.box h.c1, x.box h.c2, x.box h.c3, h.hL.keep x, h.hS.keep x, h.fL.keep x, h.fS.keep x⟩
theorem LG.mIn {W W' : World} {bg g k l hi : Nat} {c : Int} {v u : Value} {o : Int} {L S : List Int} (h : LG W bg g k c v u o L S) (m : MIn l hi W W') (h1 : hi ≤ g) (h2 : hi ≤ k) (h3 : hi ≤ bg) : LG W' bg g k c v u o L S :=
  ⟨m.box _ _ _ (by omega) h.c0, m.box _ _ _ (by omega) h.c1, m.box _ _ _ (by omega) h.c2, m.box _ _ _ (by omega) h.c3, h.hL.mIn m (by omega), h.hS.mIn m (by omega), h.fL.mIn m, h.fS.mIn m⟩
theorem LG.start {W : World} {g k : Nat} {c : Int} {v u : Value} {o : Int} {L S : List Int} (hL : IntsB W g (g + 1) v L) (hS : IntsB W k (k + 1) u S) (fL : FZ W v L) (fS : FZ W u S) : LG (W.alloc (.cells #[.int .i64 c, v, u, .int .i64 o] 43)) W.heap.size g k c v u o L S := by
  have x : Ext W (W.alloc (.cells #[.int .i64 c, v, u, .int .i64 o] 43)) := (Ext.refl W).alloc _ _
  have n := fun j => new_cell W #[.int .i64 c, v, u, .int .i64 o] 43 W.heap.size rfl j
  exact ⟨n 0, n 1, n 2, n 3, hL.keep x.bl, hS.keep x.bl, fL.keep x.bl, fS.keep x.bl⟩

/-- A view that is handed on, at block bx, its lists at b and k. -/
structure LX (W : World) (bx b k : Nat) (off : Int) (xs ss : List Int) : Prop where
  c0 : W.cell? ⟨bx, 0, none⟩ = some (.slice (some ⟨b, 0, none⟩) xs.length xs.length)
  c1 : W.cell? ⟨bx, 1, none⟩ = some (.slice (some ⟨k, 0, none⟩) ss.length ss.length)
  c2 : W.cell? ⟨bx, 2, none⟩ = some (.int .i64 off)
  hL : IntsB W b (b + 1) (.slice (some ⟨b, 0, none⟩) xs.length xs.length) xs
  hS : IntsB W k (k + 1) (.slice (some ⟨k, 0, none⟩) ss.length ss.length) ss
  fL : FZ W (.slice (some ⟨b, 0, none⟩) xs.length xs.length) xs
  fS : FZ W (.slice (some ⟨k, 0, none⟩) ss.length ss.length) ss
theorem LX.keep {W W' : World} {bx b k : Nat} {off : Int} {xs ss : List Int} (h : LX W bx b k off xs ss) (x : Bel W W') : LX W' bx b k off xs ss :=
  ⟨x.box h.c0, x.box h.c1, x.box h.c2, h.hL.keep x, h.hS.keep x, h.fL.keep x, h.fS.keep x⟩
theorem LX.start {A W : World} {b k : Nat} {off : Int} {xs ss : List Int} (x : Ext A W) (hb : A.heap.size ≤ b) (hk : b < k) (hs : k < W.heap.size) (rb : Row W b 0 xs) (rk : Row W k 0 ss) :
    LX (W.alloc (.cells #[.slice (some ⟨b, 0, none⟩) xs.length xs.length, .slice (some ⟨k, 0, none⟩) ss.length ss.length, .int .i64 off] 27)) W.heap.size b k off xs ss := by
  have y : Ext W (W.alloc (.cells #[.slice (some ⟨b, 0, none⟩) xs.length xs.length, .slice (some ⟨k, 0, none⟩) ss.length ss.length, .int .i64 off] 27)) := (Ext.refl W).alloc _ _
  have n := fun j => new_cell W #[.slice (some ⟨b, 0, none⟩) xs.length xs.length, .slice (some ⟨k, 0, none⟩) ss.length ss.length, .int .i64 off] 27 W.heap.size rfl j
  exact ⟨n 0, n 1, n 2, (rowB rb rfl).keep y.bl, (rowB rk rfl).keep y.bl, FZ.keep (Or.inr ⟨b, 0, _, _, rfl, by omega, fun o => x.unfrozen hb o⟩) y.bl, FZ.keep (Or.inr ⟨k, 0, _, _, rfl, hs, fun o => x.unfrozen (by omega) o⟩) y.bl⟩

/-- A list that is handed on, at block d. -/
structure LP (W : World) (d : Nat) (ys : List Int) : Prop where
  hP : IntsB W d (d + 1) (.slice (some ⟨d, 0, none⟩) ys.length ys.length) ys
  fP : FZ W (.slice (some ⟨d, 0, none⟩) ys.length ys.length) ys
theorem LP.keep {W W' : World} {d : Nat} {ys : List Int} (h : LP W d ys) (x : Bel W W') : LP W' d ys := ⟨h.hP.keep x, h.fP.keep x⟩
theorem LP.mIn {W W' : World} {d lo hi : Nat} {ys : List Int} (h : LP W d ys) (m : MIn lo hi W W') (hd : hi ≤ d) : LP W' d ys := ⟨h.hP.mIn m (by omega), h.fP.mIn m⟩
theorem LP.start {A W : World} {ys : List Int} (x : Ext A W) (hs : A.heap.size < W.heap.size) (r : Row W A.heap.size 0 ys) : LP W A.heap.size ys :=
  ⟨rowB r rfl, Or.inr ⟨A.heap.size, 0, _, _, rfl, hs, fun o => x.unfrozen (Nat.le_refl _) o⟩⟩
end Go.Proofs.Ytiekkninnjffpaa
namespace Go.Proofs.Ytiekkninnjffpaa
set_option linter.unusedSimpArgs false
set_option linter.unusedVariables false

/-- One axis more ahead of merged ones (all lists: the slowest axis first). -/
def mrg1 (n s : Int) : List Int → List Int → List Int × List Int
  | m :: ns, t :: ts => if n = 1 then (m :: ns, t :: ts) else if s = t * m then (m * n :: ns, t :: ts) else (n :: m :: ns, s :: t :: ts)
  | ns, ts => if n = 1 then (ns, ts) else (n :: ns, s :: ts)
def mrg : List Int → List Int → List Int × List Int
  | n :: ns, s :: ss => mrg1 n s (mrg ns ss).1 (mrg ns ss).2
  | _, _ => ([], [])

theorem mrg1_nil (n s : Int) : mrg1 n s [] [] = if n = 1 then ([], []) else ([n], [s]) := rfl
theorem mrg1_cons (n s m t : Int) (ns ts : List Int) : mrg1 n s (m :: ns) (t :: ts) = if n = 1 then (m :: ns, t :: ts) else if s = t * m then (m * n :: ns, t :: ts) else (n :: m :: ns, s :: t :: ts) := rfl
theorem mrg1_half (n s m : Int) (ns : List Int) : mrg1 n s (m :: ns) [] = if n = 1 then (m :: ns, []) else (n :: m :: ns, [s]) := rfl
theorem mrg1_none (n s : Int) (ts : List Int) : mrg1 n s [] ts = if n = 1 then ([], ts) else ([n], s :: ts) := by cases ts <;> rfl
theorem mrg1_len (n s : Int) : ∀ (ns ts : List Int), ns.length = ts.length → (mrg1 n s ns ts).1.length = (mrg1 n s ns ts).2.length
  | [], [], _ => by rw [mrg1_nil]; split <;> rfl
  | m :: ns, t :: ts, h => by
    have h' : ns.length = ts.length := by simpa using h
    rw [mrg1_cons]
    split
    · simp [h']
    · split <;> simp [h']
  | [], _ :: _, h => by simp at h
  | _ :: _, [], h => by simp at h
theorem mrg_len : ∀ (xs ss : List Int), xs.length = ss.length → (mrg xs ss).1.length = (mrg xs ss).2.length
  | [], [], _ => rfl
  | n :: ns, s :: ss, h => mrg1_len n s _ _ (mrg_len ns ss (by simpa using h))
  | [], _ :: _, h => by simp at h
  | _ :: _, [], h => by simp at h
theorem mrg1_le (n s : Int) : ∀ (ns ts : List Int), ns.length = ts.length → (mrg1 n s ns ts).1.length ≤ ns.length + 1
  | [], [], _ => by rw [mrg1_nil]; split <;> simp
  | m :: ns, t :: ts, h => by
    rw [mrg1_cons]
    split
    · simp
    · split <;> simp
  | [], _ :: _, h => by simp at h
  | _ :: _, [], h => by simp at h

/-- A count in a row of rows. -/
theorem flat_range {α : Type} (n m : Nat) (f : Nat → List α) : ((List.range n).flatMap fun i => (List.range m).flatMap fun j => f (i * m + j)) = (List.range (n * m)).flatMap f := by
  induction n with
  | zero => simp
  | succ n ih =>
    rw [List.range_succ, List.flatMap_append, ih, Nat.succ_mul, List.range_add, List.flatMap_append]
    simp [List.flatMap_map]

theorem places_one (s at_ : Int) (ns ss : List Int) : places (1 :: ns) (s :: ss) at_ = places ns ss at_ := by
  simp [places]

theorem places_mrg1 (n s : Int) (hn : 0 ≤ n) : ∀ (ns ts : List Int) (at_ : Int), ns.length = ts.length → (∀ m ∈ ns, 0 ≤ m) → places (mrg1 n s ns ts).1 (mrg1 n s ns ts).2 at_ = places (n :: ns) (s :: ts) at_
  | [], [], at_, _, _ => by
    rw [mrg1_nil]
    split
    · next h => subst h; rw [places_one]
    · rfl
  | m :: ns, t :: ts, at_, h, hp => by
    rw [mrg1_cons]
    split
    · next h1 => subst h1; rw [places_one]
    · split
      · next h1 h2 =>
        subst h2
        have hm : 0 ≤ m := hp m (List.mem_cons_self ..)
        have e : (m * n).toNat = n.toNat * m.toNat := by
          have h3 : m = (m.toNat : Int) := by omega
          have h4 : n = (n.toNat : Int) := by omega
          rw [h3, h4, ← Int.natCast_mul, Int.toNat_natCast, Int.toNat_natCast, Int.toNat_natCast, Nat.mul_comm]
        show ((List.range (m * n).toNat).flatMap fun (i : Nat) => places ns ts (at_ + (i : Int) * t)) = (List.range n.toNat).flatMap fun (i : Nat) => (List.range m.toNat).flatMap fun (j : Nat) => places ns ts (at_ + (i : Int) * (t * m) + (j : Int) * t)
        rw [e, ← flat_range]
        congr 1
        funext i
        congr 1
        funext j
        congr 1
        have h3 : m = (m.toNat : Int) := by omega
        rw [Int.natCast_add, Int.natCast_mul, ← h3, Int.add_mul, Int.mul_comm t m, ← Int.mul_assoc]
        omega
      · rfl
  | [], _ :: _, _, h, _ => by simp at h
  | _ :: _, [], _, h, _ => by simp at h

theorem mrg1_pos (n s : Int) (hn : 0 ≤ n) : ∀ (ns ts : List Int), (∀ m ∈ ns, 0 ≤ m) → ∀ m ∈ (mrg1 n s ns ts).1, 0 ≤ m
  | m :: ns, t :: ts, h => by
    have hm : 0 ≤ m := h m (List.mem_cons_self ..)
    have hr : ∀ k ∈ ns, 0 ≤ k := fun k hk => h k (List.mem_cons_of_mem _ hk)
    rw [mrg1_cons]
    split
    · exact h
    · split
      · intro k hk
        rcases List.mem_cons.1 hk with rfl | hk
        · exact Int.mul_nonneg hm hn
        · exact hr k hk
      · intro k hk
        rcases List.mem_cons.1 hk with rfl | hk
        · exact hn
        · exact h k hk
  | [], ts, h => by
    rw [mrg1_none]
    split
    · simp
    · intro k hk
      have : k = n := by simpa using hk
      omega
  | m :: ns, [], h => by
    rw [mrg1_half]
    split
    · exact h
    · intro k hk
      rcases List.mem_cons.1 hk with rfl | hk
      · exact hn
      · exact h k hk
theorem mrg_pos : ∀ (xs ss : List Int), (∀ n ∈ xs, 0 ≤ n) → ∀ m ∈ (mrg xs ss).1, 0 ≤ m
  | [], _, _ => by simp [mrg]
  | _ :: _, [], _ => by simp [mrg]
  | n :: ns, s :: ss, h => mrg1_pos n s (h n (List.mem_cons_self ..)) _ _ (mrg_pos ns ss (fun k hk => h k (List.mem_cons_of_mem _ hk)))

/-- Merged axes give the same places in the same order. -/
theorem places_mrg : ∀ (xs ss : List Int) (at_ : Int), xs.length = ss.length → (∀ n ∈ xs, 0 ≤ n) → places (mrg xs ss).1 (mrg xs ss).2 at_ = places xs ss at_
  | [], [], _, _, _ => rfl
  | n :: ns, s :: ss, at_, h, hp => by
    have hl : ns.length = ss.length := by simpa using h
    have hr : ∀ k ∈ ns, 0 ≤ k := fun k hk => hp k (List.mem_cons_of_mem _ hk)
    show places (mrg1 n s _ _).1 (mrg1 n s _ _).2 at_ = _
    rw [places_mrg1 n s (hp n (List.mem_cons_self ..)) _ _ at_ (mrg_len ns ss hl) (mrg_pos ns ss hr)]
    simp only [places]
    congr 1
    funext i
    exact places_mrg ns ss _ hl hr
  | [], _ :: _, _, h, _ => by simp at h
  | _ :: _, [], _, h, _ => by simp at h
end Go.Proofs.Ytiekkninnjffpaa
namespace Go.Proofs.Ytiekkninnjffpaa
open Go.ChangeShapes Go.RowKit
set_option linter.unusedSimpArgs false
set_option linter.unusedVariables false

def sLo (step : Int) : Int := if step < 0 then -1 else 0
def sHi (n step : Int) : Int := if step < 0 then n - 1 else n
/-- An end of a slice put right. -/
def rightL (x n step : Int) : Int := if x < 0 then max (x + n) (sLo step) else min x (sHi n step)
/-- How many are taken. -/
def cntS (a b step : Int) : Int := if step < 0 then (if a - b ≤ 0 then 0 else (a - b + -step - 1) / -step) else (if b - a ≤ 0 then 0 else (b - a + step - 1) / step)

theorem rightL_bd {x n step : Int} (hn : 0 ≤ n ∧ n ≤ 4096) (hs : step ≠ 0) (hx : -1000000 ≤ x ∧ x ≤ 1000000) : sLo step ≤ rightL x n step ∧ rightL x n step ≤ sHi n step := by
  unfold rightL sLo sHi
  split <;> split <;> omega

theorem cnt_pos {d s : Int} (hd : 0 < d) (hs : 0 < s) : 0 < (d + s - 1) / s ∧ (d + s - 1) / s ≤ d := by
  constructor
  · have : 1 ≤ (d + s - 1) / s := by rw [Int.le_ediv_iff_mul_le hs]; omega
    omega
  · have : (d + s - 1) / s < d + 1 := by
      rw [Int.ediv_lt_iff_lt_mul hs]
      have h1 : d * 1 ≤ d * s := Int.mul_le_mul_of_nonneg_left (by omega) (by omega)
      rw [Int.add_mul]
      omega
    omega
theorem cnt_lt {d s : Int} (hs : 0 < s) (k : Int) : k < (d + s - 1) / s ↔ k * s < d := by
  have h : k < (d + s - 1) / s ↔ k + 1 ≤ (d + s - 1) / s := by omega
  rw [h, Int.le_ediv_iff_mul_le hs, Int.add_mul]
  omega

theorem cntS_bd (a b step n : Int) (hs : step ≠ 0) (ha : sLo step ≤ a ∧ a ≤ sHi n step) (hb : sLo step ≤ b ∧ b ≤ sHi n step) (hn : 0 ≤ n) : 0 ≤ cntS a b step ∧ cntS a b step ≤ n := by
  unfold sLo sHi at *
  unfold cntS
  split
  · next h =>
    rw [if_pos h] at ha hb
    rw [if_pos h] at ha hb
    split
    · omega
    · have := cnt_pos (d := a - b) (s := -step) (by omega) (by omega)
      omega
  · next h =>
    rw [if_neg h] at ha hb
    rw [if_neg h] at ha hb
    split
    · omega
    · have := cnt_pos (d := b - a) (s := step) (by omega) (by omega)
      omega

/-- The loop goes on exactly so long. -/
theorem cntS_lt (a b step : Int) (hs : step ≠ 0) (k : Nat) : ((0 < step ∧ a + k * step < b) ∨ (step < 0 ∧ b < a + k * step)) ↔ (k : Int) < cntS a b step := by
  unfold cntS
  by_cases h : step < 0
  · rw [if_pos h]
    have hm : (k : Int) * -step = -(k * step) := by rw [Int.mul_neg]
    by_cases hd : a - b ≤ 0
    · rw [if_pos hd]
      have h0 : 0 ≤ (k : Int) * -step := Int.mul_nonneg (by omega) (by omega)
      omega
    · rw [if_neg hd, cnt_lt (by omega), hm]
      omega
  · rw [if_neg h]
    by_cases hd : b - a ≤ 0
    · rw [if_pos hd]
      have h0 : 0 ≤ (k : Int) * step := Int.mul_nonneg (by omega) (by omega)
      omega
    · rw [if_neg hd, cnt_lt (by omega)]
      omega

def okStep (x : Int) : Bool := decide (-1000000 ≤ x ∧ x ≤ 1000000)

set_option maxRecDepth 100000 in
theorem isStep_any (x : Int) (w : World) : Calls Try.prog 72 #[.int .i64 x] w fun e w' => e = .returned (.bool (okStep x)) ∧ w' = w := by
  by_cases h1 : -1000000 ≤ x
  · by_cases h2 : x ≤ 1000000
    · have hv : Hid (okStep x = true) := decide_eq_true ⟨h1, h2⟩
      go_enter Try.func72, Try.ntmps72
      go_wp2
      go_ret
      exact ⟨ret_bool (by rw [hv.out]; try simp [h1, h2]), rfl⟩
    · have hv : Hid (okStep x = false) := decide_eq_false (fun q => h2 q.2)
      go_enter Try.func72, Try.ntmps72
      go_wp2
      go_ret
      exact ⟨ret_bool (by rw [hv.out]; try simp [h1, h2]), rfl⟩
  · have hv : Hid (okStep x = false) := decide_eq_false (fun q => h1 q.1)
    go_enter Try.func72, Try.ntmps72
    go_wp2
    go_ret
    exact ⟨ret_bool (by rw [hv.out]; try simp [h1]), rfl⟩

theorem retI {a b : Int} (h : a = b) : Ending.returned (Value.int .i64 a) = Ending.returned (Value.int .i64 b) := by rw [h]

set_option maxRecDepth 100000 in
set_option maxHeartbeats 1000000 in
theorem l2Right_any (x n lo hi : Int) (hn : 0 ≤ n ∧ n ≤ 4096) (hx : -1000000 ≤ x ∧ x ≤ 1000000) (w : World) :
    Calls Try.prog 70 #[.int .i64 x, .int .i64 n, .int .i64 lo, .int .i64 hi] w fun e w' => e = .returned (.int .i64 (if x < 0 then max (x + n) lo else min x hi)) ∧ w' = w := by
  by_cases h : x < 0
  · by_cases h2 : x + n < lo
    · go_enter Try.func70, Try.ntmps70
      go_wp2
      go_ret
      exact ⟨retI (by (try rw [if_pos h]); omega), rfl⟩
    · go_enter Try.func70, Try.ntmps70
      go_wp2
      go_ret
      exact ⟨retI (by (try rw [if_pos h]); omega), rfl⟩
  · by_cases h2 : hi < x
    · go_enter Try.func70, Try.ntmps70
      go_wp2
      go_ret
      exact ⟨retI (by (try rw [if_neg h]); omega), rfl⟩
    · go_enter Try.func70, Try.ntmps70
      go_wp2
      go_ret
      exact ⟨retI (by (try rw [if_neg h]); omega), rfl⟩

set_option maxRecDepth 100000 in
set_option maxHeartbeats 1000000 in
theorem putRight_any (x n step : Int) (hn : 0 ≤ n ∧ n ≤ 4096) (hx : -1000000 ≤ x ∧ x ≤ 1000000) (w : World) :
    Calls Try.prog 85 #[.int .i64 x, .int .i64 n, .int .i64 step] w fun e w' => e = .returned (.int .i64 (rightL x n step)) ∧ w' = w := by
  have hv : Hid (rightL x n step = if x < 0 then max (x + n) (sLo step) else min x (sHi n step)) := rfl
  by_cases hs : step < 0
  · have h1 : sLo step = -1 := if_pos hs
    have h2 : sHi n step = n - 1 := if_pos hs
    have H1 := hide h1
    have H2 := hide h2
    clear h1 h2
    by_cases h : x < 0
    · go_enter Try.func85, Try.ntmps85
      go_wp2
      all_goals go_ret
      all_goals exact ⟨retI (by rw [hv.out, H1.out, H2.out]; split <;> omega), rfl⟩
    · go_enter Try.func85, Try.ntmps85
      go_wp2
      all_goals go_ret
      all_goals exact ⟨retI (by rw [hv.out, H1.out, H2.out]; split <;> omega), rfl⟩
  · have h1 : sLo step = 0 := if_neg hs
    have h2 : sHi n step = n := if_neg hs
    have H1 := hide h1
    have H2 := hide h2
    clear h1 h2
    by_cases h : x < 0
    · go_enter Try.func85, Try.ntmps85
      go_wp2
      all_goals go_ret
      all_goals exact ⟨retI (by rw [hv.out, H1.out, H2.out]; split <;> omega), rfl⟩
    · go_enter Try.func85, Try.ntmps85
      go_wp2
      all_goals go_ret
      all_goals exact ⟨retI (by rw [hv.out, H1.out, H2.out]; split <;> omega), rfl⟩

set_option maxRecDepth 100000 in
set_option maxHeartbeats 1000000 in
theorem countSteps_any (a b step : Int) (ha : -1 ≤ a ∧ a ≤ 4096) (hb : -1 ≤ b ∧ b ≤ 4096) (hs : step ≠ 0) (hs1 : -1000000 ≤ step ∧ step ≤ 1000000) (w : World) :
    Calls Try.prog 86 #[.int .i64 a, .int .i64 b, .int .i64 step] w fun e w' => e = .returned (.int .i64 (cntS a b step)) ∧ w' = w := by
  by_cases h : step < 0
  · by_cases hd : a - b ≤ 0
    · have hv : Hid (cntS a b step = 0) := by show cntS a b step = 0; unfold cntS; rw [if_pos h, if_pos hd]
      have hd2 : -(b - a) ≤ 0 := by omega
      go_enter Try.func86, Try.ntmps86
      go_wp2
      go_ret
      exact ⟨retI hv.out.symm, rfl⟩
    · obtain ⟨t, rfl⟩ : ∃ t, step = -t := ⟨-step, by omega⟩
      have hv : Hid (cntS a b (-t) = (-(b - a) + t - 1) / t) := by
        show cntS a b (-t) = _
        unfold cntS
        rw [if_pos h, if_neg hd, Int.neg_neg]
        congr 1
        omega
      have hd2 : ¬ -(b - a) ≤ 0 := by omega
      have ht : 0 < t := by omega
      clear h hs
      have h : -t < 0 := by omega
      go_enter Try.func86, Try.ntmps86
      go_wp2
      go_ret
      exact ⟨retI hv.out.symm, rfl⟩
  · by_cases hd : b - a ≤ 0
    · have hv : Hid (cntS a b step = 0) := by show cntS a b step = 0; unfold cntS; rw [if_neg h, if_pos hd]
      go_enter Try.func86, Try.ntmps86
      go_wp2
      go_ret
      exact ⟨retI hv.out.symm, rfl⟩
    · have hv : Hid (cntS a b step = (b - a + step - 1) / step) := by show cntS a b step = _; unfold cntS; rw [if_neg h, if_neg hd]
      go_enter Try.func86, Try.ntmps86
      go_wp2
      go_ret
      exact ⟨retI hv.out.symm, rfl⟩
end Go.Proofs.Ytiekkninnjffpaa
namespace Go.Proofs.Ytiekkninnjffpaa
open Go.ChangeShapes Go.RowKit
set_option linter.unusedSimpArgs false
set_option linter.unusedVariables false

theorem set_getD (xs : List Int) (a : Nat) (c : Int) (ha : a < xs.length) (j : Nat) : (xs.set a c).getD j 0 = if a = j then c else xs.getD j 0 := by
  by_cases h : a = j
  · subst h; rw [if_pos rfl]; simp [List.getD_eq_getElem?_getD, ha]
  · rw [if_neg h]; simp [List.getD_eq_getElem?_getD, List.getElem?_set, h]

def slS (xs ss : List Int) (a : Nat) (cnt step : Int) : List Int := if prod (xs.set a cnt) = 0 then ss else if 2 ≤ cnt then ss.set a (ss.getD a 0 * step) else ss
def slO (xs ss : List Int) (a : Nat) (cnt first off : Int) : Int := if prod (xs.set a cnt) = 0 then off else off + first * ss.getD a 0
theorem slS_len (xs ss : List Int) (a : Nat) (cnt step : Int) : (slS xs ss a cnt step).length = ss.length := by
  unfold slS
  split
  · rfl
  · split <;> simp

/-- The world of 'sliced': f at w.heap.size, the answer behind it. -/
structure FW (w W : World) (n : Int) (xs ss : List Int) (off : Int) : Prop where
  c0 : W.cell? ⟨w.heap.size, 0, none⟩ = some (.int .i64 n)
  l : ∀ j, j < 4 → W.cell? ⟨w.heap.size, 1 + j, none⟩ = some (.int .i64 (xs.getD j 0))
  s : ∀ j, j < 4 → W.cell? ⟨w.heap.size, 5 + j, none⟩ = some (.int .i64 (ss.getD j 0))
  c9 : W.cell? ⟨w.heap.size, 9, none⟩ = some (.int .i64 off)
  r : ∀ j, j < 10 → W.cell? ⟨w.heap.size + 1, j, none⟩ = some (.int .i64 0)
  ex : Ext w W
theorem FW.keep {w W W' : World} {n : Int} {xs ss : List Int} {off : Int} (h : FW w W n xs ss off) (x : Ext W W') : FW w W' n xs ss off :=
  ⟨x.box h.c0, fun j hj => x.box (h.l j hj), fun j hj => x.box (h.s j hj), x.box h.c9, fun j hj => x.box (h.r j hj), h.ex.trans x⟩
theorem FW.setL {w W : World} {n : Int} {xs ss : List Int} {off : Int} (h : FW w W n xs ss off) (a : Nat) (ha : a < xs.length) (h4 : a < 4) (c : Int) : FW w (W.setCell ⟨w.heap.size, 1 + a, none⟩ (.int .i64 c)) n (xs.set a c) ss off := by
  refine ⟨near (by omega) h.c0, fun j hj => ?_, fun j hj => near (by omega) (h.s j hj), near (by omega) h.c9, fun j hj => far1 (by omega) (h.r j hj), h.ex.setCell (Nat.le_refl _) _⟩
  rw [set_getD xs a c ha j]
  by_cases e : a = j
  · subst e; rw [if_pos rfl]; exact World.cell?_setCell_same _ _ _ (h.l a hj)
  · rw [if_neg e]; exact near (by omega) (h.l j hj)
theorem FW.setS {w W : World} {n : Int} {xs ss : List Int} {off : Int} (h : FW w W n xs ss off) (a : Nat) (ha : a < ss.length) (h4 : a < 4) (c : Int) : FW w (W.setCell ⟨w.heap.size, 5 + a, none⟩ (.int .i64 c)) n xs (ss.set a c) off := by
  refine ⟨near (by omega) h.c0, fun j hj => near (by omega) (h.l j hj), fun j hj => ?_, near (by omega) h.c9, fun j hj => far1 (by omega) (h.r j hj), h.ex.setCell (Nat.le_refl _) _⟩
  rw [set_getD ss a c ha j]
  by_cases e : a = j
  · subst e; rw [if_pos rfl]; exact World.cell?_setCell_same _ _ _ (h.s a hj)
  · rw [if_neg e]; exact near (by omega) (h.s j hj)
theorem FW.setO {w W : World} {n : Int} {xs ss : List Int} {off : Int} (h : FW w W n xs ss off) (o : Int) : FW w (W.setCell ⟨w.heap.size, 9, none⟩ (.int .i64 o)) n xs ss o :=
  ⟨near (by omega) h.c0, fun j hj => near (by omega) (h.l j hj), fun j hj => near (by omega) (h.s j hj), World.cell?_setCell_same _ _ _ h.c9, fun j hj => far1 (by omega) (h.r j hj), h.ex.setCell (Nat.le_refl _) _⟩

/-- The ten cells of the answer. -/
theorem chain10 {W : World} {R : Nat} (h : ∀ j, j < 10 → W.cell? ⟨R, j, none⟩ = some (.int .i64 0)) (v0 v1 v2 v3 v4 v5 v6 v7 v8 v9 : Value) :
    let C := (((((((((W.setCell ⟨R, 0, none⟩ v0).setCell ⟨R, 1, none⟩ v1).setCell ⟨R, 2, none⟩ v2).setCell ⟨R, 3, none⟩ v3).setCell ⟨R, 4, none⟩ v4).setCell ⟨R, 5, none⟩ v5).setCell ⟨R, 6, none⟩ v6).setCell ⟨R, 7, none⟩ v7).setCell ⟨R, 8, none⟩ v8).setCell ⟨R, 9, none⟩ v9
    C.cell? ⟨R, 0, none⟩ = some v0 ∧ C.cell? ⟨R, 1, none⟩ = some v1 ∧ C.cell? ⟨R, 2, none⟩ = some v2 ∧ C.cell? ⟨R, 3, none⟩ = some v3 ∧ C.cell? ⟨R, 4, none⟩ = some v4 ∧ C.cell? ⟨R, 5, none⟩ = some v5 ∧ C.cell? ⟨R, 6, none⟩ = some v6 ∧ C.cell? ⟨R, 7, none⟩ = some v7 ∧ C.cell? ⟨R, 8, none⟩ = some v8 ∧ C.cell? ⟨R, 9, none⟩ = some v9 := by
  intro C
  have Z := zt (zt (zt (zt (zt (zt (zt (zt (zt (zt (f := fun _ => (.int .i64 0 : Value)) h 0 v0) 1 v1) 2 v2) 3 v3) 4 v4) 5 v5) 6 v6) 7 v7) 8 v8) 9 v9
  exact ⟨(Z 0 (by omega)).trans rfl, (Z 1 (by omega)).trans rfl, (Z 2 (by omega)).trans rfl, (Z 3 (by omega)).trans rfl, (Z 4 (by omega)).trans rfl, (Z 5 (by omega)).trans rfl, (Z 6 (by omega)).trans rfl, (Z 7 (by omega)).trans rfl, (Z 8 (by omega)).trans rfl, (Z 9 (by omega)).trans rfl⟩

def SlOk (w : World) (xs ss : List Int) (off : Int) (e : Ending) (w' : World) : Prop := e = .returned (.agg (vw xs ss off)) ∧ Ext w w'

set_option maxRecDepth 100000 in
set_option maxHeartbeats 4000000 in
theorem sliced_any (w : World) (xs ss : List Int) (off : Int) (a : Nat) (start stop step : Int) (h4 : xs.length ≤ 4) (ha : a < xs.length) (hl : ss.length = xs.length) (hr : InR xs xs.length) (hss : InS ss ss.length) (ho : 0 ≤ off ∧ off ≤ 4096)
    (h1 : -1000000 ≤ start ∧ start ≤ 1000000) (h2 : -1000000 ≤ stop ∧ stop ≤ 1000000) (h3 : -1000000 ≤ step ∧ step ≤ 1000000) (hs : step ≠ 0) (F C : Int) (hF : rightL start (xs.getD a 0) step = F) (hC : cntS F (rightL stop (xs.getD a 0) step) step = C) :
    Calls Try.prog 73 #[.agg (vw xs ss off), .int .i64 a, .int .i64 start, .int .i64 stop, .int .i64 step] w fun e w' => SlOk w (xs.set a C) (slS xs ss a C step) (slO xs ss a C F off) e w' := by
  have hn := hr a ha
  have hsa := hss a (by omega)
  have x0 : Ext w ((w.alloc (.cells (vw xs ss off) 64)).alloc (.cells #[.int .i64 0, .int .i64 0, .int .i64 0, .int .i64 0, .int .i64 0, .int .i64 0, .int .i64 0, .int .i64 0, .int .i64 0, .int .i64 0] 64)) := ((Ext.refl w).alloc _ _).alloc _ _
  have y1 : Ext (w.alloc (.cells (vw xs ss off) 64)) ((w.alloc (.cells (vw xs ss off) 64)).alloc (.cells #[.int .i64 0, .int .i64 0, .int .i64 0, .int .i64 0, .int .i64 0, .int .i64 0, .int .i64 0, .int .i64 0, .int .i64 0, .int .i64 0] 64)) := (Ext.refl _).alloc _ _
  have n1 := fun j => new_cell w (vw xs ss off) 64 w.heap.size rfl j
  have n2 := fun j => new_cell (w.alloc (.cells (vw xs ss off) 64)) #[.int .i64 0, .int .i64 0, .int .i64 0, .int .i64 0, .int .i64 0, .int .i64 0, .int .i64 0, .int .i64 0, .int .i64 0, .int .i64 0] 64 (w.heap.size + 1) (by simp) j
  have S0 : Hid (FW w ((w.alloc (.cells (vw xs ss off) 64)).alloc (.cells #[.int .i64 0, .int .i64 0, .int .i64 0, .int .i64 0, .int .i64 0, .int .i64 0, .int .i64 0, .int .i64 0, .int .i64 0, .int .i64 0] 64)) xs.length xs ss off) := by
    refine ⟨y1.box (n1 0), fun j hj => ?_, fun j hj => ?_, y1.box (n1 9), fun j hj => ?_, x0⟩
    · obtain rfl | rfl | rfl | rfl : j = 0 ∨ j = 1 ∨ j = 2 ∨ j = 3 := by omega
      · exact y1.box (n1 1)
      · exact y1.box (n1 2)
      · exact y1.box (n1 3)
      · exact y1.box (n1 4)
    · obtain rfl | rfl | rfl | rfl : j = 0 ∨ j = 1 ∨ j = 2 ∨ j = 3 := by omega
      · exact y1.box (n1 5)
      · exact y1.box (n1 6)
      · exact y1.box (n1 7)
      · exact y1.box (n1 8)
    · obtain rfl | rfl | rfl | rfl | rfl | rfl | rfl | rfl | rfl | rfl : j = 0 ∨ j = 1 ∨ j = 2 ∨ j = 3 ∨ j = 4 ∨ j = 5 ∨ j = 6 ∨ j = 7 ∨ j = 8 ∨ j = 9 := by omega
      all_goals exact n2 _
  clear x0 y1 n1 n2
  have hb := rightL_bd hn hs h1
  have hb2 := rightL_bd hn hs h2
  have hcb := cntS_bd F (rightL stop (xs.getD a 0) step) step (xs.getD a 0) hs (by rw [← hF]; exact hb) hb2 hn.1
  rw [hC] at hcb
  have hFb : -1 ≤ F ∧ F ≤ 4096 := by rw [← hF]; unfold sLo sHi at hb; split at hb <;> omega
  have hGb : -1 ≤ rightL stop (xs.getD a 0) step ∧ rightL stop (xs.getD a 0) step ≤ 4096 := by unfold sLo sHi at hb2; split at hb2 <;> omega
  have P1 := hide (fun W => putRight_any start (xs.getD a 0) step hn h1 W)
  have P2 := hide (fun W => putRight_any stop (xs.getD a 0) step hn h2 W)
  have P3 := hide (fun W => countSteps_any F (rightL stop (xs.getD a 0) step) step hFb hGb hs h3 W)
  have hIn : Hid (InR (xs.set a C) (xs.set a C).length) := fun j hj => by
    rw [set_getD xs a C ha j]
    by_cases e : a = j
    · rw [if_pos e]; omega
    · rw [if_neg e]; exact hr j (by simpa using hj)
  have hcnt := hide (fun W => count_any W (xs.set a C) (by simpa using h4) hIn.out)
  rw [hF] at P1
  rw [hC] at P3
  have HSL := hide (fun W (h : FW w W xs.length xs ss off) => h.setL a ha (by omega) C)
  have qn := S0.out.l a (by omega)
  have qs := S0.out.s a (by omega)
  have hfs : -4096 * 4096 ≤ F * ss.getD a 0 ∧ F * ss.getD a 0 ≤ 4096 * 4096 := by
    by_cases e : F = -1
    · subst e; omega
    · have := mul_between F 4097 (ss.getD a 0) (by omega) (by omega)
      omega
  have hst : -4096000000 ≤ ss.getD a 0 * step ∧ ss.getD a 0 * step ≤ 4096000000 := by
    by_cases e : 0 ≤ step
    · have := mul_between step 1000001 (ss.getD a 0) (by omega) (by omega)
      have e2 : step * ss.getD a 0 = ss.getD a 0 * step := Int.mul_comm _ _
      omega
    · have := mul_between (-step) 1000001 (ss.getD a 0) (by omega) (by omega)
      have e2 : -step * ss.getD a 0 = -(ss.getD a 0 * step) := by rw [Int.neg_mul, Int.mul_comm]
      omega
  have hSO : Hid (slO xs ss a C F off = if prod (xs.set a C) = 0 then off else off + F * ss.getD a 0) := rfl
  have hSS : Hid (slS xs ss a C step = if prod (xs.set a C) = 0 then ss else if 2 ≤ C then ss.set a (ss.getD a 0 * step) else ss) := rfl
  generalize hN : xs.getD a 0 = n at qn P1 P2 P3 hn hcb
  generalize hSt : ss.getD a 0 = st at qs hfs hst hSO hSS
  generalize rightL stop n step = G at P2 P3
  have ha0 : (0 : Int) ≤ (a : Int) := Int.natCast_nonneg _
  have ha4 : (a : Int) < 4 := by omega
  have hNe := hide hN
  clear hN hSt hF hC hb hb2 hFb hGb
  have uf : ∀ W, FW w W xs.length xs ss off → ∀ o, W.frozen? ⟨w.heap.size, o, none⟩ = false := fun W h o => h.ex.unfrozen (Nat.le_refl _) o
  have UF := hide uf
  clear uf
  unfold vw at S0 qn qs ⊢
  generalize xs.getD 0 0 = e0 at S0 qn qs ⊢
  generalize xs.getD 1 0 = e1 at S0 qn qs ⊢
  generalize xs.getD 2 0 = e2 at S0 qn qs ⊢
  generalize xs.getD 3 0 = e3 at S0 qn qs ⊢
  generalize ss.getD 0 0 = e4 at S0 qn qs ⊢
  generalize ss.getD 1 0 = e5 at S0 qn qs ⊢
  generalize ss.getD 2 0 = e6 at S0 qn qs ⊢
  generalize ss.getD 3 0 = e7 at S0 qn qs ⊢
  go_enter Try.func73, Try.ntmps73
  go_wp2_with fail
  generalize hW0 : ((w.alloc (.cells #[.int .i64 xs.length, .int .i64 e0, .int .i64 e1, .int .i64 e2, .int .i64 e3, .int .i64 e4, .int .i64 e5, .int .i64 e6, .int .i64 e7, .int .i64 off] 64)).alloc (.cells #[.int .i64 0, .int .i64 0, .int .i64 0, .int .i64 0, .int .i64 0, .int .i64 0, .int .i64 0, .int .i64 0, .int .i64 0, .int .i64 0] 64)) = V0 at S0 qn qs ⊢
  clear hW0
  go_region
  have S1 := hide (S0.out.keep ((Ext.refl V0).drew))
  generalize hV1 : V0.drew = V1 at S1 ⊢
  have qn1 : V1.cell? ⟨w.heap.size, 1 + a, none⟩ = some (.int .i64 n) := by rw [← hV1]; exact qn
  clear hV1 qn qs S0
  go_wp2_with fail
  refine (P1.out _).mono ?_
  rintro e w' ⟨rfl, rfl⟩
  go_wp2_with fail
  refine (P2.out _).mono ?_
  rintro e w' ⟨rfl, rfl⟩
  go_wp2_with fail
  refine (P3.out _).mono ?_
  rintro e w' ⟨rfl, rfl⟩
  have uf1 := UF.out _ S1.out
  have S2 := hide (HSL.out _ S1.out)
  clear P1 P2 P3 HSL
  have hcnt2 : Hid (∀ W, Calls Try.prog 61 #[.agg #[.int .i64 (xs.length : Int), .int .i64 ((xs.set a C).getD 0 0), .int .i64 ((xs.set a C).getD 1 0), .int .i64 ((xs.set a C).getD 2 0), .int .i64 ((xs.set a C).getD 3 0)]] W fun e w' => e = .returned (.int .i64 (prod (xs.set a C))) ∧ Ext W w') := fun W => by
    have := hcnt.out W
    unfold shp at this
    rw [List.length_set] at this
    refine this.mono ?_
    rintro e w' ⟨h1, rfl⟩
    exact ⟨h1, (Ext.refl W).alloc _ _⟩
  have z0 := S2.out.c0
  have z1 : (w'.setCell ⟨w.heap.size, 1 + a, none⟩ (.int .i64 C)).cell? ⟨w.heap.size, 1, none⟩ = _ := S2.out.l 0 (by omega)
  have z2 : (w'.setCell ⟨w.heap.size, 1 + a, none⟩ (.int .i64 C)).cell? ⟨w.heap.size, 2, none⟩ = _ := S2.out.l 1 (by omega)
  have z3 : (w'.setCell ⟨w.heap.size, 1 + a, none⟩ (.int .i64 C)).cell? ⟨w.heap.size, 3, none⟩ = _ := S2.out.l 2 (by omega)
  have z4 : (w'.setCell ⟨w.heap.size, 1 + a, none⟩ (.int .i64 C)).cell? ⟨w.heap.size, 4, none⟩ = _ := S2.out.l 3 (by omega)
  generalize hT0 : (xs.set a C).getD 0 0 = t0 at z1 hcnt2
  generalize hT1 : (xs.set a C).getD 1 0 = t1 at z2 hcnt2
  generalize hT2 : (xs.set a C).getD 2 0 = t2 at z3 hcnt2
  generalize hT3 : (xs.set a C).getD 3 0 = t3 at z4 hcnt2
  have HT0 := hide hT0
  have HT1 := hide hT1
  have HT2 := hide hT2
  have HT3 := hide hT3
  clear hT0 hT1 hT2 hT3 hcnt
  go_wp2_with fail
  refine (hcnt2.out _).mono ?_
  rintro e w3 ⟨rfl, x3⟩
  have S3 := hide (S2.out.keep x3)
  clear x3 z0 z1 z2 z3 z4 S2 S1 hcnt2 qn1 uf1
  generalize hP : prod (xs.set a C) = P at hSO hSS
  by_cases hP0 : P = 0
  · rw [if_pos hP0] at hSO hSS
    subst hP0
    clear hP
    have z0 := S3.out.c0
    have z1 : w3.cell? ⟨w.heap.size, 1, none⟩ = some (.int .i64 t0) := by have := S3.out.l 0 (by omega); rw [HT0.out] at this; exact this
    have z2 : w3.cell? ⟨w.heap.size, 2, none⟩ = some (.int .i64 t1) := by have := S3.out.l 1 (by omega); rw [HT1.out] at this; exact this
    have z3 : w3.cell? ⟨w.heap.size, 3, none⟩ = some (.int .i64 t2) := by have := S3.out.l 2 (by omega); rw [HT2.out] at this; exact this
    have z4 : w3.cell? ⟨w.heap.size, 4, none⟩ = some (.int .i64 t3) := by have := S3.out.l 3 (by omega); rw [HT3.out] at this; exact this
    have z5 : w3.cell? ⟨w.heap.size, 5, none⟩ = _ := S3.out.s 0 (by omega)
    have z6 : w3.cell? ⟨w.heap.size, 6, none⟩ = _ := S3.out.s 1 (by omega)
    have z7 : w3.cell? ⟨w.heap.size, 7, none⟩ = _ := S3.out.s 2 (by omega)
    have z8 : w3.cell? ⟨w.heap.size, 8, none⟩ = _ := S3.out.s 3 (by omega)
    have z9 := S3.out.c9
    have rr := S3.out.r
    have rr0 := rr 0 (by omega)
    have rr1 := rr 1 (by omega)
    have rr2 := rr 2 (by omega)
    have rr3 := rr 3 (by omega)
    have rr4 := rr 4 (by omega)
    have rr5 := rr 5 (by omega)
    have rr6 := rr 6 (by omega)
    have rr7 := rr 7 (by omega)
    have rr8 := rr 8 (by omega)
    have rr9 := rr 9 (by omega)
    have rf := fun o => S3.out.ex.unfrozen (b := w.heap.size + 1) (by omega) o
    have HE := hide S3.out.ex
    have HRR := hide rr
    clear rr
    generalize hU0 : (ss).getD 0 0 = u0 at z5
    have HU0 := hide hU0
    clear hU0
    generalize hU1 : (ss).getD 1 0 = u1 at z6
    have HU1 := hide hU1
    clear hU1
    generalize hU2 : (ss).getD 2 0 = u2 at z7
    have HU2 := hide hU2
    clear hU2
    generalize hU3 : (ss).getD 3 0 = u3 at z8
    have HU3 := hide hU3
    clear hU3
    go_wp2
    obtain ⟨q0, q1, q2, q3, q4, q5, q6, q7, q8, q9⟩ := chain10 HRR.out (.int .i64 (xs.length : Int)) (.int .i64 t0) (.int .i64 t1) (.int .i64 t2) (.int .i64 t3) (.int .i64 u0) (.int .i64 u1) (.int .i64 u2) (.int .i64 u3) (.int .i64 off)
    exact bodyPost_ret (v := .agg #[.int .i64 (xs.length : Int), .int .i64 t0, .int .i64 t1, .int .i64 t2, .int .i64 t3, .int .i64 u0, .int .i64 u1, .int .i64 u2, .int .i64 u3, .int .i64 off]) (by simp [results, Try.results73, go_sem, q0, q1, q2, q3, q4, q5, q6, q7, q8, q9]) rfl ⟨by rw [hSO.out, hSS.out]; unfold vw; rw [List.length_set, HT0.out, HT1.out, HT2.out, HT3.out, HU0.out, HU1.out, HU2.out, HU3.out], by repeat (first | with_reducible exact HE.out | with_reducible refine Ext.setCell ?_ (by show w.heap.size ≤ w.heap.size + 1; omega) _)⟩
  · rw [if_neg hP0] at hSO hSS
    have hPn : (P == 0) = false := by simp [hP0]
    have HP := hide hP
    clear hP hP0
    have y9 := S3.out.c9
    have wf := UF.out
    have uf3 := fun o => S3.out.ex.unfrozen (b := w.heap.size) (Nat.le_refl _) o
    have S4 := hide (S3.out.setO (off + F * st))
    by_cases hC2 : 2 ≤ C
    · rw [if_pos hC2] at hSS
      have y5 := near (i := 9) (v := .int .i64 (off + F * st)) (by omega) (S3.out.s a (by omega))
      generalize ss.getD a 0 = old at y5
      have S5 := hide (S4.out.setS a (by omega) (by omega) (st * step))
      clear wf
      have z0 := S5.out.c0
      have z1 : ((w3.setCell ⟨w.heap.size, 9, none⟩ (.int .i64 (off + F * st))).setCell ⟨w.heap.size, 5 + a, none⟩ (.int .i64 (st * step))).cell? ⟨w.heap.size, 1, none⟩ = some (.int .i64 t0) := by have := S5.out.l 0 (by omega); rw [HT0.out] at this; exact this
      have z2 : ((w3.setCell ⟨w.heap.size, 9, none⟩ (.int .i64 (off + F * st))).setCell ⟨w.heap.size, 5 + a, none⟩ (.int .i64 (st * step))).cell? ⟨w.heap.size, 2, none⟩ = some (.int .i64 t1) := by have := S5.out.l 1 (by omega); rw [HT1.out] at this; exact this
      have z3 : ((w3.setCell ⟨w.heap.size, 9, none⟩ (.int .i64 (off + F * st))).setCell ⟨w.heap.size, 5 + a, none⟩ (.int .i64 (st * step))).cell? ⟨w.heap.size, 3, none⟩ = some (.int .i64 t2) := by have := S5.out.l 2 (by omega); rw [HT2.out] at this; exact this
      have z4 : ((w3.setCell ⟨w.heap.size, 9, none⟩ (.int .i64 (off + F * st))).setCell ⟨w.heap.size, 5 + a, none⟩ (.int .i64 (st * step))).cell? ⟨w.heap.size, 4, none⟩ = some (.int .i64 t3) := by have := S5.out.l 3 (by omega); rw [HT3.out] at this; exact this
      have z5 : ((w3.setCell ⟨w.heap.size, 9, none⟩ (.int .i64 (off + F * st))).setCell ⟨w.heap.size, 5 + a, none⟩ (.int .i64 (st * step))).cell? ⟨w.heap.size, 5, none⟩ = _ := S5.out.s 0 (by omega)
      have z6 : ((w3.setCell ⟨w.heap.size, 9, none⟩ (.int .i64 (off + F * st))).setCell ⟨w.heap.size, 5 + a, none⟩ (.int .i64 (st * step))).cell? ⟨w.heap.size, 6, none⟩ = _ := S5.out.s 1 (by omega)
      have z7 : ((w3.setCell ⟨w.heap.size, 9, none⟩ (.int .i64 (off + F * st))).setCell ⟨w.heap.size, 5 + a, none⟩ (.int .i64 (st * step))).cell? ⟨w.heap.size, 7, none⟩ = _ := S5.out.s 2 (by omega)
      have z8 : ((w3.setCell ⟨w.heap.size, 9, none⟩ (.int .i64 (off + F * st))).setCell ⟨w.heap.size, 5 + a, none⟩ (.int .i64 (st * step))).cell? ⟨w.heap.size, 8, none⟩ = _ := S5.out.s 3 (by omega)
      have z9 := S5.out.c9
      have rr := S5.out.r
      have rr0 := rr 0 (by omega)
      have rr1 := rr 1 (by omega)
      have rr2 := rr 2 (by omega)
      have rr3 := rr 3 (by omega)
      have rr4 := rr 4 (by omega)
      have rr5 := rr 5 (by omega)
      have rr6 := rr 6 (by omega)
      have rr7 := rr 7 (by omega)
      have rr8 := rr 8 (by omega)
      have rr9 := rr 9 (by omega)
      have rf := fun o => S5.out.ex.unfrozen (b := w.heap.size + 1) (by omega) o
      have HE := hide S5.out.ex
      have HRR := hide rr
      clear rr
      generalize hU0 : (ss.set a (st * step)).getD 0 0 = u0 at z5
      have HU0 := hide hU0
      clear hU0
      generalize hU1 : (ss.set a (st * step)).getD 1 0 = u1 at z6
      have HU1 := hide hU1
      clear hU1
      generalize hU2 : (ss.set a (st * step)).getD 2 0 = u2 at z7
      have HU2 := hide hU2
      clear hU2
      generalize hU3 : (ss.set a (st * step)).getD 3 0 = u3 at z8
      have HU3 := hide hU3
      clear hU3
      go_wp2
      obtain ⟨q0, q1, q2, q3, q4, q5, q6, q7, q8, q9⟩ := chain10 HRR.out (.int .i64 (xs.length : Int)) (.int .i64 t0) (.int .i64 t1) (.int .i64 t2) (.int .i64 t3) (.int .i64 u0) (.int .i64 u1) (.int .i64 u2) (.int .i64 u3) (.int .i64 (off + F * st))
      exact bodyPost_ret (v := .agg #[.int .i64 (xs.length : Int), .int .i64 t0, .int .i64 t1, .int .i64 t2, .int .i64 t3, .int .i64 u0, .int .i64 u1, .int .i64 u2, .int .i64 u3, .int .i64 (off + F * st)]) (by simp [results, Try.results73, go_sem, q0, q1, q2, q3, q4, q5, q6, q7, q8, q9]) rfl ⟨by rw [hSO.out, hSS.out]; unfold vw; rw [List.length_set, HT0.out, HT1.out, HT2.out, HT3.out, HU0.out, HU1.out, HU2.out, HU3.out], by repeat (first | with_reducible exact HE.out | with_reducible refine Ext.setCell ?_ (by show w.heap.size ≤ w.heap.size + 1; omega) _)⟩
    · rw [if_neg hC2] at hSS
      clear wf
      have z0 := S4.out.c0
      have z1 : (w3.setCell ⟨w.heap.size, 9, none⟩ (.int .i64 (off + F * st))).cell? ⟨w.heap.size, 1, none⟩ = some (.int .i64 t0) := by have := S4.out.l 0 (by omega); rw [HT0.out] at this; exact this
      have z2 : (w3.setCell ⟨w.heap.size, 9, none⟩ (.int .i64 (off + F * st))).cell? ⟨w.heap.size, 2, none⟩ = some (.int .i64 t1) := by have := S4.out.l 1 (by omega); rw [HT1.out] at this; exact this
      have z3 : (w3.setCell ⟨w.heap.size, 9, none⟩ (.int .i64 (off + F * st))).cell? ⟨w.heap.size, 3, none⟩ = some (.int .i64 t2) := by have := S4.out.l 2 (by omega); rw [HT2.out] at this; exact this
      have z4 : (w3.setCell ⟨w.heap.size, 9, none⟩ (.int .i64 (off + F * st))).cell? ⟨w.heap.size, 4, none⟩ = some (.int .i64 t3) := by have := S4.out.l 3 (by omega); rw [HT3.out] at this; exact this
      have z5 : (w3.setCell ⟨w.heap.size, 9, none⟩ (.int .i64 (off + F * st))).cell? ⟨w.heap.size, 5, none⟩ = _ := S4.out.s 0 (by omega)
      have z6 : (w3.setCell ⟨w.heap.size, 9, none⟩ (.int .i64 (off + F * st))).cell? ⟨w.heap.size, 6, none⟩ = _ := S4.out.s 1 (by omega)
      have z7 : (w3.setCell ⟨w.heap.size, 9, none⟩ (.int .i64 (off + F * st))).cell? ⟨w.heap.size, 7, none⟩ = _ := S4.out.s 2 (by omega)
      have z8 : (w3.setCell ⟨w.heap.size, 9, none⟩ (.int .i64 (off + F * st))).cell? ⟨w.heap.size, 8, none⟩ = _ := S4.out.s 3 (by omega)
      have z9 := S4.out.c9
      have rr := S4.out.r
      have rr0 := rr 0 (by omega)
      have rr1 := rr 1 (by omega)
      have rr2 := rr 2 (by omega)
      have rr3 := rr 3 (by omega)
      have rr4 := rr 4 (by omega)
      have rr5 := rr 5 (by omega)
      have rr6 := rr 6 (by omega)
      have rr7 := rr 7 (by omega)
      have rr8 := rr 8 (by omega)
      have rr9 := rr 9 (by omega)
      have rf := fun o => S4.out.ex.unfrozen (b := w.heap.size + 1) (by omega) o
      have HE := hide S4.out.ex
      have HRR := hide rr
      clear rr
      generalize hU0 : (ss).getD 0 0 = u0 at z5
      have HU0 := hide hU0
      clear hU0
      generalize hU1 : (ss).getD 1 0 = u1 at z6
      have HU1 := hide hU1
      clear hU1
      generalize hU2 : (ss).getD 2 0 = u2 at z7
      have HU2 := hide hU2
      clear hU2
      generalize hU3 : (ss).getD 3 0 = u3 at z8
      have HU3 := hide hU3
      clear hU3
      go_wp2
      obtain ⟨q0, q1, q2, q3, q4, q5, q6, q7, q8, q9⟩ := chain10 HRR.out (.int .i64 (xs.length : Int)) (.int .i64 t0) (.int .i64 t1) (.int .i64 t2) (.int .i64 t3) (.int .i64 u0) (.int .i64 u1) (.int .i64 u2) (.int .i64 u3) (.int .i64 (off + F * st))
      exact bodyPost_ret (v := .agg #[.int .i64 (xs.length : Int), .int .i64 t0, .int .i64 t1, .int .i64 t2, .int .i64 t3, .int .i64 u0, .int .i64 u1, .int .i64 u2, .int .i64 u3, .int .i64 (off + F * st)]) (by simp [results, Try.results73, go_sem, q0, q1, q2, q3, q4, q5, q6, q7, q8, q9]) rfl ⟨by rw [hSO.out, hSS.out]; unfold vw; rw [List.length_set, HT0.out, HT1.out, HT2.out, HT3.out, HU0.out, HU1.out, HU2.out, HU3.out], by repeat (first | with_reducible exact HE.out | with_reducible refine Ext.setCell ?_ (by show w.heap.size ≤ w.heap.size + 1; omega) _)⟩
end Go.Proofs.Ytiekkninnjffpaa
namespace Go.Proofs.Ytiekkninnjffpaa
open Go.ChangeShapes Go.RowKit
set_option linter.unusedSimpArgs false
set_option linter.unusedVariables false

/-- The world of the loop: f at w.heap.size, the answer behind it, out at B; the merged axes lie the fastest first. -/
structure MW (w W : World) (B : Nat) (xs ss : List Int) (off : Int) (M S : List Int) : Prop where
  fl : ∀ j, j < 4 → W.cell? ⟨w.heap.size, 1 + j, none⟩ = some (.int .i64 (xs.getD j 0))
  fs : ∀ j, j < 4 → W.cell? ⟨w.heap.size, 5 + j, none⟩ = some (.int .i64 (ss.getD j 0))
  r : ∀ j, j < 10 → W.cell? ⟨w.heap.size + 1, j, none⟩ = some (.int .i64 0)
  o0 : W.cell? ⟨B, 0, none⟩ = some (.int .i64 M.length)
  ol : ∀ j, j < 4 → W.cell? ⟨B, 1 + j, none⟩ = some (.int .i64 (M.getD j 0))
  os : ∀ j, j < 4 → W.cell? ⟨B, 5 + j, none⟩ = some (.int .i64 (S.getD j 0))
  o9 : W.cell? ⟨B, 9, none⟩ = some (.int .i64 off)
  ex : Ext w W
  hB : w.heap.size + 1 < B
theorem MW.drew {w W : World} {B : Nat} {xs ss : List Int} {off : Int} {M S : List Int} (h : MW w W B xs ss off M S) : MW w W.drew B xs ss off M S :=
  ⟨h.fl, h.fs, h.r, h.o0, h.ol, h.os, h.o9, h.ex.drew, h.hB⟩
theorem snoc_getD (M : List Int) (x : Int) (j : Nat) : (M ++ [x]).getD j 0 = if j = M.length then x else M.getD j 0 := by
  by_cases h : j = M.length
  · subst h; rw [if_pos rfl]; simp [List.getD_eq_getElem?_getD]
  · rw [if_neg h]
    by_cases h2 : j < M.length
    · simp [List.getD_eq_getElem?_getD, List.getElem?_append, h2]
    · have h3 : M.length < j := by omega
      rw [List.getD_eq_getElem?_getD, List.getD_eq_getElem?_getD, List.getElem?_eq_none (by simp; omega), List.getElem?_eq_none (by omega)]
/-- The last merged axis grows. -/
theorem MW.grow {w W : World} {B : Nat} {xs ss : List Int} {off : Int} {M S : List Int} (h : MW w W B xs ss off M S) (a : Nat) (ha : a < M.length) (h4 : a < 4) (c : Int) : MW w (W.setCell ⟨B, 1 + a, none⟩ (.int .i64 c)) B xs ss off (M.set a c) S := by
  have hB := h.hB
  have m : Mut B W (W.setCell ⟨B, 1 + a, none⟩ (.int .i64 c)) := (Mut.refl _ _).setCell _ _
  refine ⟨fun j hj => m.box (by omega) (h.fl j hj), fun j hj => m.box (by omega) (h.fs j hj), fun j hj => m.box (by omega) (h.r j hj), ?_, fun j hj => ?_, fun j hj => near (by omega) (h.os j hj), near (by omega) h.o9, h.ex.setCell (by show w.heap.size ≤ B; omega) _, hB⟩
  · rw [List.length_set]; exact near (by omega) h.o0
  · rw [set_getD M a c ha j]
    by_cases e : a = j
    · subst e; rw [if_pos rfl]; exact World.cell?_setCell_same _ _ _ (h.ol a hj)
    · rw [if_neg e]; exact near (by omega) (h.ol j hj)
/-- One merged axis more. -/
theorem MW.more {w W : World} {B : Nat} {xs ss : List Int} {off : Int} {M S : List Int} (h : MW w W B xs ss off M S) (hl : S.length = M.length) (h4 : M.length < 4) (x y : Int) :
    MW w (((W.setCell ⟨B, 1 + M.length, none⟩ (.int .i64 x)).setCell ⟨B, 5 + M.length, none⟩ (.int .i64 y)).setCell ⟨B, 0, none⟩ (.int .i64 ((M.length : Int) + 1))) B xs ss off (M ++ [x]) (S ++ [y]) := by
  have hB := h.hB
  have m : Mut B W (((W.setCell ⟨B, 1 + M.length, none⟩ (.int .i64 x)).setCell ⟨B, 5 + M.length, none⟩ (.int .i64 y)).setCell ⟨B, 0, none⟩ (.int .i64 ((M.length : Int) + 1))) := (((Mut.refl _ _).setCell _ _).setCell _ _).setCell _ _
  refine ⟨fun j hj => m.box (by omega) (h.fl j hj), fun j hj => m.box (by omega) (h.fs j hj), fun j hj => m.box (by omega) (h.r j hj), ?_, fun j hj => ?_, fun j hj => ?_, near (by omega) (near (by omega) (near (by omega) h.o9)), ((h.ex.setCell (by show w.heap.size ≤ B; omega) _).setCell (by show w.heap.size ≤ B; omega) _).setCell (by show w.heap.size ≤ B; omega) _, hB⟩
  · rw [List.length_append]
    exact World.cell?_setCell_same _ _ _ (near (by omega) (near (by omega) h.o0))
  · rw [snoc_getD]
    refine near (by omega) (near (by omega) ?_)
    by_cases e : j = M.length
    · subst e; rw [if_pos rfl]; exact World.cell?_setCell_same _ _ _ (h.ol _ hj)
    · rw [if_neg e]; exact near (by omega) (h.ol j hj)
  · rw [snoc_getD, hl]
    refine near (by omega) ?_
    by_cases e : j = M.length
    · subst e; rw [if_pos rfl]; exact World.cell?_setCell_same _ _ _ (near (by omega) (h.os _ hj))
    · rw [if_neg e]; exact near (by omega) (near (by omega) (h.os j hj))

/-- What is merged when k axes are gone through. -/
def mgL (xs ss : List Int) (k : Nat) : List Int := (mrg (xs.drop (xs.length - k)) (ss.drop (xs.length - k))).1
def mgS (xs ss : List Int) (k : Nat) : List Int := (mrg (xs.drop (xs.length - k)) (ss.drop (xs.length - k))).2
theorem mg_step (xs ss : List Int) (k : Nat) (hl : ss.length = xs.length) (hk : k < xs.length) : (mgL xs ss (k + 1), mgS xs ss (k + 1)) = mrg1 (xs.getD (xs.length - 1 - k) 0) (ss.getD (xs.length - 1 - k) 0) (mgL xs ss k) (mgS xs ss k) := by
  unfold mgL mgS
  have e : xs.length - (k + 1) = xs.length - 1 - k := by omega
  have e2 : xs.length - k = xs.length - 1 - k + 1 := by omega
  have d1 : xs.drop (xs.length - 1 - k) = xs.getD (xs.length - 1 - k) 0 :: xs.drop (xs.length - 1 - k + 1) := by
    rw [List.drop_eq_getElem_cons (by omega), List.getD_eq_getElem?_getD, List.getElem?_eq_getElem (by omega)]; rfl
  have d2 : ss.drop (xs.length - 1 - k) = ss.getD (xs.length - 1 - k) 0 :: ss.drop (xs.length - 1 - k + 1) := by
    rw [List.drop_eq_getElem_cons (by omega), List.getD_eq_getElem?_getD, List.getElem?_eq_getElem (by omega)]; rfl
  rw [e, e2, d1, d2]
  rfl
theorem mg_len (xs ss : List Int) (k : Nat) (hl : ss.length = xs.length) : (mgS xs ss k).length = (mgL xs ss k).length := (mrg_len _ _ (by simp; omega)).symm
theorem mg_zero (xs ss : List Int) (hl : ss.length = xs.length) : mgL xs ss 0 = [] ∧ mgS xs ss 0 = [] := by
  unfold mgL mgS
  rw [Nat.sub_zero, List.drop_length, List.drop_of_length_le (by omega)]
  exact ⟨rfl, rfl⟩
theorem mg_le (xs ss : List Int) (hl : ss.length = xs.length) : ∀ k, k ≤ xs.length → (mgL xs ss k).length ≤ k
  | 0, _ => by rw [(mg_zero xs ss hl).1]; simp
  | k + 1, hk => by
    have := mg_le xs ss hl k (by omega)
    have e := congrArg Prod.fst (mg_step xs ss k hl (by omega))
    rw [show mgL xs ss (k + 1) = _ from e]
    have := mrg1_le (xs.getD (xs.length - 1 - k) 0) (ss.getD (xs.length - 1 - k) 0) (mgL xs ss k) (mgS xs ss k) (mg_len xs ss k hl).symm
    omega
def MRel (w : World) (B : Nat) (xs ss : List Int) (off : Int) (i : Value) (W : World) : Prop := ∃ k : Nat, i = .int .i64 ((xs.length : Int) - 1 - k) ∧ k ≤ xs.length ∧ MW w W B xs ss off (mgL xs ss k).reverse (mgS xs ss k).reverse

theorem bd_mul {k : Nat} {m n : Int} (hk : k < 4) (hm : 0 ≤ m ∧ m ≤ bd k) (hn : 0 ≤ n ∧ n ≤ 4096) : 0 ≤ m * n ∧ m * n ≤ bd (k + 1) := by
  refine ⟨Int.mul_nonneg hm.1 hn.1, ?_⟩
  have h1 : m * n ≤ bd k * 4096 := Int.mul_le_mul hm.2 hn.2 hn.1 (Int.le_trans hm.1 hm.2)
  have h2 : bd k * 4096 = bd (k + 1) := by
    obtain rfl | rfl | rfl | rfl : k = 0 ∨ k = 1 ∨ k = 2 ∨ k = 3 := by omega
    all_goals decide
  omega
theorem bd_up (k : Nat) (hk : k < 4) : bd k ≤ bd (k + 1) ∧ 4096 ≤ bd (k + 1) := by
  obtain rfl | rfl | rfl | rfl : k = 0 ∨ k = 1 ∨ k = 2 ∨ k = 3 := by omega
  all_goals decide
theorem mrg1_bd {k : Nat} {n s : Int} (hk : k < 4) (hn : 0 ≤ n ∧ n ≤ 4096) (hs : -4096 ≤ s ∧ s ≤ 4096) : ∀ (ns ts : List Int), ns.length = ts.length → (∀ m ∈ ns, 0 ≤ m ∧ m ≤ bd k) → (∀ t ∈ ts, -4096 ≤ t ∧ t ≤ 4096) →
    (∀ m ∈ (mrg1 n s ns ts).1, 0 ≤ m ∧ m ≤ bd (k + 1)) ∧ (∀ t ∈ (mrg1 n s ns ts).2, -4096 ≤ t ∧ t ≤ 4096)
  | [], [], _, _, _ => by
    have := bd_up k hk
    rw [mrg1_nil]
    split
    · simp
    · simp; omega
  | m :: ns, t :: ts, _, h1, h2 => by
    have hb := bd_up k hk
    have up : ∀ x, 0 ≤ x ∧ x ≤ bd k → 0 ≤ x ∧ x ≤ bd (k + 1) := fun x hx => by omega
    have hm := h1 m (List.mem_cons_self ..)
    have hr : ∀ x ∈ ns, 0 ≤ x ∧ x ≤ bd (k + 1) := fun x hx => up x (h1 x (List.mem_cons_of_mem _ hx))
    rw [mrg1_cons]
    split
    · exact ⟨fun x hx => up x (h1 x hx), h2⟩
    · split
      · refine ⟨fun x hx => ?_, h2⟩
        rcases List.mem_cons.1 hx with rfl | hx
        · exact bd_mul hk hm hn
        · exact hr x hx
      · refine ⟨fun x hx => ?_, fun x hx => ?_⟩
        · rcases List.mem_cons.1 hx with rfl | hx
          · omega
          · exact up x (h1 x hx)
        · rcases List.mem_cons.1 hx with rfl | hx
          · exact hs
          · exact h2 x hx
  | [], _ :: _, h, _, _ => by simp at h
  | _ :: _, [], h, _, _ => by simp at h
theorem mg_bd (xs ss : List Int) (h4 : xs.length ≤ 4) (hl : ss.length = xs.length) (hr : InR xs xs.length) (hss : InS ss ss.length) : ∀ k, k ≤ xs.length → (∀ m ∈ mgL xs ss k, 0 ≤ m ∧ m ≤ bd k) ∧ (∀ t ∈ mgS xs ss k, -4096 ≤ t ∧ t ≤ 4096)
  | 0, _ => by rw [(mg_zero xs ss hl).1, (mg_zero xs ss hl).2]; simp
  | k + 1, hk => by
    have ih := mg_bd xs ss h4 hl hr hss k (by omega)
    have e := mg_step xs ss k hl (by omega)
    have e1 := congrArg Prod.fst e
    have e2 := congrArg Prod.snd e
    rw [show mgL xs ss (k + 1) = _ from e1, show mgS xs ss (k + 1) = _ from e2]
    exact mrg1_bd (by omega) (hr _ (by omega)) (hss _ (by omega)) _ _ (mg_len xs ss k hl).symm ih.1 ih.2
theorem rev_last (m : Int) (ns : List Int) : (m :: ns).reverse.getD ns.length 0 = m := by
  rw [List.reverse_cons, snoc_getD, if_pos (by simp)]
theorem rev_set (m c : Int) (ns : List Int) : (m :: ns).reverse.set ns.length c = (c :: ns).reverse := by
  rw [List.reverse_cons, List.reverse_cons, List.set_append_right _ _ (by simp)]
  simp
theorem mrel_step {w W : World} {B : Nat} {xs ss : List Int} {off : Int} {k : Nat} (hk : k < xs.length) {L S : List Int} (e : (mgL xs ss (k + 1), mgS xs ss (k + 1)) = (L, S)) (h : MW w W B xs ss off L.reverse S.reverse) {i : Int} (hi : i = (xs.length : Int) - 1 - ((k + 1 : Nat) : Int)) : MRel w B xs ss off (.int .i64 i) W := by
  have e1 : mgL xs ss (k + 1) = L := congrArg Prod.fst e
  have e2 : mgS xs ss (k + 1) = S := congrArg Prod.snd e
  exact ⟨k + 1, by rw [hi], by omega, by rw [e1, e2]; exact h⟩

theorem mrg1_one (s : Int) : ∀ (ns ts : List Int), mrg1 1 s ns ts = (ns, ts)
  | [], [] => rfl
  | [], _ :: _ => rfl
  | _ :: _, [] => rfl
  | _ :: _, _ :: _ => rfl

set_option maxRecDepth 100000 in
set_option maxHeartbeats 4000000 in
theorem merged_any (w : World) (xs ss : List Int) (off : Int) (h4 : xs.length ≤ 4) (hl : ss.length = xs.length) (hr : InR xs xs.length) (hss : InS ss ss.length) :
    Calls Try.prog 83 #[.agg (vw xs ss off)] w fun e w' => e = .returned (.agg (vw (mrg xs ss).1.reverse (mrg xs ss).2.reverse off)) ∧ Ext w w' := by
  have x0 : Ext w ((w.alloc (.cells (vw xs ss off) 64)).alloc (.cells #[.int .i64 0, .int .i64 0, .int .i64 0, .int .i64 0, .int .i64 0, .int .i64 0, .int .i64 0, .int .i64 0, .int .i64 0, .int .i64 0] 64)) := ((Ext.refl w).alloc _ _).alloc _ _
  have y1 : Ext (w.alloc (.cells (vw xs ss off) 64)) ((w.alloc (.cells (vw xs ss off) 64)).alloc (.cells #[.int .i64 0, .int .i64 0, .int .i64 0, .int .i64 0, .int .i64 0, .int .i64 0, .int .i64 0, .int .i64 0, .int .i64 0, .int .i64 0] 64)) := (Ext.refl _).alloc _ _
  have n1 := fun j => new_cell w (vw xs ss off) 64 w.heap.size rfl j
  have n2 := fun j => new_cell (w.alloc (.cells (vw xs ss off) 64)) #[.int .i64 0, .int .i64 0, .int .i64 0, .int .i64 0, .int .i64 0, .int .i64 0, .int .i64 0, .int .i64 0, .int .i64 0, .int .i64 0] 64 (w.heap.size + 1) (by simp) j
  have S0 : Hid (FW w ((w.alloc (.cells (vw xs ss off) 64)).alloc (.cells #[.int .i64 0, .int .i64 0, .int .i64 0, .int .i64 0, .int .i64 0, .int .i64 0, .int .i64 0, .int .i64 0, .int .i64 0, .int .i64 0] 64)) xs.length xs ss off) := by
    refine ⟨y1.box (n1 0), fun j hj => ?_, fun j hj => ?_, y1.box (n1 9), fun j hj => ?_, x0⟩
    · obtain rfl | rfl | rfl | rfl : j = 0 ∨ j = 1 ∨ j = 2 ∨ j = 3 := by omega
      · exact y1.box (n1 1)
      · exact y1.box (n1 2)
      · exact y1.box (n1 3)
      · exact y1.box (n1 4)
    · obtain rfl | rfl | rfl | rfl : j = 0 ∨ j = 1 ∨ j = 2 ∨ j = 3 := by omega
      · exact y1.box (n1 5)
      · exact y1.box (n1 6)
      · exact y1.box (n1 7)
      · exact y1.box (n1 8)
    · obtain rfl | rfl | rfl | rfl | rfl | rfl | rfl | rfl | rfl | rfl : j = 0 ∨ j = 1 ∨ j = 2 ∨ j = 3 ∨ j = 4 ∨ j = 5 ∨ j = 6 ∨ j = 7 ∨ j = 8 ∨ j = 9 := by omega
      all_goals exact n2 _
  have sz0 : Hid (((w.alloc (.cells (vw xs ss off) 64)).alloc (.cells #[.int .i64 0, .int .i64 0, .int .i64 0, .int .i64 0, .int .i64 0, .int .i64 0, .int .i64 0, .int .i64 0, .int .i64 0, .int .i64 0] 64)).heap.size = w.heap.size + 1 + 1) := by show ((w.alloc (.cells (vw xs ss off) 64)).alloc (.cells #[.int .i64 0, .int .i64 0, .int .i64 0, .int .i64 0, .int .i64 0, .int .i64 0, .int .i64 0, .int .i64 0, .int .i64 0, .int .i64 0] 64)).heap.size = _; simp
  clear x0 y1 n1 n2
  generalize hans : (fun (e : Ending) (w' : World) => e = .returned (.agg (vw (mrg xs ss).1.reverse (mrg xs ss).2.reverse off)) ∧ Ext w w') = ANS
  have Hans := hide hans
  clear hans
  have f0 := S0.out.c0
  have f9 := S0.out.c9
  unfold vw at S0 f0 f9 sz0 ⊢
  generalize xs.getD 0 0 = e0 at S0 f0 f9 sz0 ⊢
  generalize xs.getD 1 0 = e1 at S0 f0 f9 sz0 ⊢
  generalize xs.getD 2 0 = e2 at S0 f0 f9 sz0 ⊢
  generalize xs.getD 3 0 = e3 at S0 f0 f9 sz0 ⊢
  generalize ss.getD 0 0 = e4 at S0 f0 f9 sz0 ⊢
  generalize ss.getD 1 0 = e5 at S0 f0 f9 sz0 ⊢
  generalize ss.getD 2 0 = e6 at S0 f0 f9 sz0 ⊢
  generalize ss.getD 3 0 = e7 at S0 f0 f9 sz0 ⊢
  go_enter Try.func83, Try.ntmps83
  go_wp2_with fail
  generalize hV0 : ((w.alloc (.cells #[.int .i64 xs.length, .int .i64 e0, .int .i64 e1, .int .i64 e2, .int .i64 e3, .int .i64 e4, .int .i64 e5, .int .i64 e6, .int .i64 e7, .int .i64 off] 64)).alloc (.cells #[.int .i64 0, .int .i64 0, .int .i64 0, .int .i64 0, .int .i64 0, .int .i64 0, .int .i64 0, .int .i64 0, .int .i64 0, .int .i64 0] 64)) = V0 at S0 f0 f9 sz0 ⊢
  clear hV0
  have y3 : Ext V0 (V0.alloc (.cells #[.int .i64 0, .int .i64 0, .int .i64 0, .int .i64 0, .int .i64 0, .int .i64 0, .int .i64 0, .int .i64 0, .int .i64 0, .int .i64 off] 64)) := (Ext.refl V0).alloc _ _
  have n3 := fun j => new_cell V0 #[.int .i64 0, .int .i64 0, .int .i64 0, .int .i64 0, .int .i64 0, .int .i64 0, .int .i64 0, .int .i64 0, .int .i64 0, .int .i64 off] 64 (w.heap.size + 1 + 1) (by rw [sz0.out]) j
  have M0 : Hid (MW w (V0.alloc (.cells #[.int .i64 0, .int .i64 0, .int .i64 0, .int .i64 0, .int .i64 0, .int .i64 0, .int .i64 0, .int .i64 0, .int .i64 0, .int .i64 off] 64)) (w.heap.size + 1 + 1) xs ss off (mgL xs ss 0).reverse (mgS xs ss 0).reverse) := by
    rw [(mg_zero xs ss hl).1, (mg_zero xs ss hl).2]
    refine ⟨fun j hj => y3.box (S0.out.l j hj), fun j hj => y3.box (S0.out.s j hj), fun j hj => y3.box (S0.out.r j hj), n3 0, fun j hj => ?_, fun j hj => ?_, n3 9, S0.out.ex.trans y3, by omega⟩
    · obtain rfl | rfl | rfl | rfl : j = 0 ∨ j = 1 ∨ j = 2 ∨ j = 3 := by omega
      all_goals exact n3 _
    · obtain rfl | rfl | rfl | rfl : j = 0 ∨ j = 1 ∨ j = 2 ∨ j = 3 := by omega
      all_goals exact n3 _
  clear y3 n3 S0 f0 f9 sz0
  have Hl := hide hl
  have HR := hide hr
  have HSS := hide hss
  clear hl hr hss
  generalize hBB : w.heap.size + 1 + 1 = B at M0 ⊢
  have HBB : Hid (w.heap.size + 1 < B) := by show w.heap.size + 1 < B; omega
  clear hBB
  go_loopw [4] (fun i W => MRel w B xs ss off i W) (fun i _ => (intOf i + 1).toNat)
  case atStart => exact ⟨0, by simp, by omega, M0.out⟩
  case round =>
    obtain ⟨k, rfl, hk, hM⟩ := hrel
    have HM := hide hM
    clear hM
    by_cases hlt : k < xs.length
    · have hge : (0 : Int) ≤ (xs.length : Int) - 1 - k := by omega
      obtain ⟨ix, hix⟩ : ∃ ix : Nat, xs.length - 1 - k = ix := ⟨_, rfl⟩
      have hixi : (xs.length : Int) - 1 - k = (ix : Int) := by omega
      have hix4 : ix < 4 := by omega
      have hixx : ix < xs.length := by omega
      have hi0 : (0 : Int) ≤ (ix : Int) := Int.natCast_nonneg _
      have hi44 : (ix : Int) < 4 := by omega
      have qx := HM.out.fl ix hix4
      have qs := HM.out.fs ix hix4
      have hX := HR.out ix hixx
      have hY := HSS.out ix (by have := Hl.out; omega)
      have hbd := mg_bd xs ss h4 Hl.out HR.out HSS.out k (by omega)
      have hml := mg_le xs ss Hl.out k (by omega)
      have hsl := mg_len xs ss k Hl.out
      have hstep := hide (mg_step xs ss k Hl.out hlt)
      rw [hix] at hstep
      generalize mgL xs ss k = ML at HM hbd hml hsl hstep
      generalize mgS xs ss k = MS at HM hbd hsl hstep
      generalize xs.getD ix 0 = X at qx hX hstep
      generalize ss.getD ix 0 = Y at qs hY hstep
      have Hix := hide hix
      have Hixi := hide hixi
      clear hix
      rw [hixi]
      clear hixi hge
      have HMd := hide HM.out.drew
      generalize hMr : ML.reverse = M at HM HMd
      generalize hSr : MS.reverse = S at HM HMd
      have HMr := hide hMr
      have HSr := hide hSr
      have hMl : M.length = ML.length := by rw [← hMr]; simp
      have hSl : S.length = MS.length := by rw [← hSr]; simp
      have hM4 : M.length < 4 := by omega
      have hSM : S.length = M.length := by omega
      clear hMr hSr
      have o0 := HMd.out.o0
      by_cases hX1 : X = 1
      · subst hX1
        have hst2 := hide (hstep.out.trans (mrg1_one _ _ _))
        have HMl := hide hMl
        have HSl := hide hSl
        have Hs := hide hsl
        clear hMl hSl hsl hSM
        go_wp2_with fail
        go_region
        go_wp2
        go_roundw
        · exact mrel_step hlt hst2.out (by rw [HMr.out, HSr.out]; exact HMd.out) (by have := Hixi.out; omega)
        · first | (simp [intOf]; done) | (simp [intOf]; omega)
      have hXn : (X == 1) = false := by simp [hX1]
      cases ML with
      | nil =>
        obtain rfl : MS = [] := List.eq_nil_of_length_eq_zero hsl
        have e1 : M = [] := HMr.out.symm
        have e2 : S = [] := HSr.out.symm
        subst e1
        subst e2
        have hst2 := hide (hstep.out.trans ((mrg1_nil _ _).trans (if_neg hX1)))
        clear hsl hMl hSl hSM hM4 hml
        go_wp2_with fail
        go_region
        generalize hWW : wr.drew = WW at HMd o0 ⊢
        clear hWW HM qx qs
        go_wp2_with fail
        go_region
        have HMM := hide HMd.out.drew
        generalize hW2 : WW.drew = W2 at HMM ⊢
        clear hW2 HMd o0
        have o0 : W2.cell? ⟨B, 0, none⟩ = some (.int .i64 0) := HMM.out.o0
        have g1 : W2.cell? ⟨B, 1, none⟩ = some (.int .i64 0) := HMM.out.ol 0 (by omega)
        have g5 : W2.cell? ⟨B, 5, none⟩ = some (.int .i64 0) := HMM.out.os 0 (by omega)
        have g5b : (W2.setCell ⟨B, 1, none⟩ (.int .i64 X)).cell? ⟨B, 5, none⟩ = some (.int .i64 0) := near (by omega) g5
        have o0c : ((W2.setCell ⟨B, 1, none⟩ (.int .i64 X)).setCell ⟨B, 5, none⟩ (.int .i64 Y)).cell? ⟨B, 0, none⟩ = some (.int .i64 0) := near (by omega) (near (by omega) o0)
        have hbf := fun o => HMM.out.ex.unfrozen (b := B) (by have := HMM.out.hB; omega) o
        have HMore : Hid (MW w (((W2.setCell ⟨B, 1, none⟩ (.int .i64 X)).setCell ⟨B, 5, none⟩ (.int .i64 Y)).setCell ⟨B, 0, none⟩ (.int .i64 1)) B xs ss off [X] [Y]) := HMM.out.more rfl (by simp) X Y
        go_wp2
        go_roundw
        · exact mrel_step hlt hst2.out HMore.out (by have := Hixi.out; omega)
        · first | (simp [intOf]; done) | (simp [intOf]; omega)
      | cons m ns =>
        obtain ⟨t, ts, rfl⟩ : ∃ t ts, MS = t :: ts := by
          cases MS with
          | nil => simp at hsl
          | cons t ts => exact ⟨t, ts, rfl⟩
        have hqs : ts.length = ns.length := by simpa using hsl
        obtain ⟨q, hq⟩ : ∃ q : Nat, ns.length = q := ⟨_, rfl⟩
        have hMq : M.length = q + 1 := by rw [hMl]; simp [hq]
        have hSq : S.length = q + 1 := by omega
        have hm := hbd.1 m (List.mem_cons_self ..)
        have ht := hbd.2 t (List.mem_cons_self ..)
        have hb4 := bd_le k
        have mm : M.getD q 0 = m := by rw [← HMr.out, ← hq]; exact rev_last m ns
        have tt : S.getD q 0 = t := by rw [← HSr.out, ← hq, ← hqs]; exact rev_last t ts
        have hq4 : q < 4 := by omega
        have hq3 : q + 1 < 4 := by omega
        have hq0 : (0 : Int) ≤ (q : Int) := Int.natCast_nonneg _
        have hq44 : (q : Int) < 4 := by omega
        have c1 := HMd.out.ol q hq4
        have c5 := HMd.out.os q hq4
        rw [mm] at c1
        rw [tt] at c5
        have o0q : wr.drew.cell? ⟨B, 0, none⟩ = some (.int .i64 ((q : Int) + 1)) := by rw [o0, hMq]; simp
        have htm : -4096 * 281474976710656 ≤ t * m ∧ t * m ≤ 4096 * 281474976710656 := by
          have h1 := mul_between m (281474976710656 + 1) t (by omega) (by omega)
          have h2 : m * t = t * m := Int.mul_comm _ _
          omega
        have hwm : IntKind.i64.wrap (t * m) = t * m := by rw [IntKind.wrap_i64]; omega
        have hmX := bd_mul (k := k) (by omega) hm hX
        have hb5 := bd_le (k + 1)
        have hwp : IntKind.i64.wrap (m * X) = m * X := by rw [IntKind.wrap_i64]; omega
        have HMl := hide hMl
        have HMq := hide hMq
        have HSq := hide hSq
        have Hq := hide hq
        have Hqs := hide hqs
        have Hsl := hide hsl
        have HSM := hide hSM
        have HM4 := hide hM4
        clear hMl hMq hSq hq hqs hsl hSM hM4 hSl hml o0 mm tt hmX htm hb4 hb5 hm ht hbd
        go_wp2_with fail
        go_region
        generalize hWW : wr.drew = WW at HMd o0q c1 c5 ⊢
        clear hWW HM qx qs
        have SA : Hid ((fun w' => w'.cell? ⟨B, 5 + q, none⟩ = some (.int .i64 t) ∧ w'.cell? ⟨B, 1 + q, none⟩ = some (.int .i64 m)) WW.drew) := ⟨c5, c1⟩
        go_wp2_with fail
        go_region_held3 (fun w' => w'.cell? ⟨B, 5 + q, none⟩ = some (.int .i64 t) ∧ w'.cell? ⟨B, 1 + q, none⟩ = some (.int .i64 m)) (first | with_reducible exact SA.out | exact SA.out | fail) (fail)
        have HMM := hide HMd.out.drew
        generalize hW2 : WW.drew = W2 at HMM ⊢
        clear hW2 HMd o0q c1 c5 SA
        have c1 : W2.cell? ⟨B, 1 + q, none⟩ = some (.int .i64 m) := by
          have := HMM.out.ol q hq4
          rw [← HMr.out, ← Hq.out, rev_last] at this
          rw [← Hq.out]; exact this
        have hbf := fun o => HMM.out.ex.unfrozen (b := B) (by have := HMM.out.hB; omega) o
        by_cases hYt : Y = t * m
        · subst hYt
          have hst2 := hide (hstep.out.trans ((mrg1_cons _ _ _ _ _ _).trans ((if_neg hX1).trans (if_pos rfl))))
          have HG := hide (HMM.out.grow q (by have := HMq.out; omega) hq4 (m * X))
          go_wp2
          go_roundw
          · refine mrel_step hlt hst2.out ?_ (by have := Hixi.out; omega)
            have g := HG.out
            rw [← HMr.out, ← Hq.out, rev_set] at g
            rw [Hq.out] at g
            rw [HSr.out]
            exact g
          · first | (simp [intOf]; done) | (simp [intOf]; omega)
        · have hYn : (Y == t * m) = false := by simp [hYt]
          have hst2 := hide (hstep.out.trans ((mrg1_cons _ _ _ _ _ _).trans ((if_neg hX1).trans (if_neg hYt))))
          have g1 := HMM.out.ol (q + 1) hq3
          have g5 := HMM.out.os (q + 1) hq3
          have o0 : W2.cell? ⟨B, 0, none⟩ = some (.int .i64 ((q : Int) + 1)) := by rw [HMM.out.o0, HMq.out]; simp
          have HMore := HMM.out.more HSM.out HM4.out X Y
          rw [HMq.out, show (((q + 1 : Nat) : Int) + 1) = (q : Int) + 1 + 1 by omega] at HMore
          have g5b : (W2.setCell ⟨B, 1 + (q + 1), none⟩ (.int .i64 X)).cell? ⟨B, 5 + (q + 1), none⟩ = _ := near (by omega) g5
          have o0c : ((W2.setCell ⟨B, 1 + (q + 1), none⟩ (.int .i64 X)).setCell ⟨B, 5 + (q + 1), none⟩ (.int .i64 Y)).cell? ⟨B, 0, none⟩ = some (.int .i64 ((q : Int) + 1)) := near (by omega) (near (by omega) o0)
          have HMore2 := hide HMore
          clear HMore
          have hqi : (q : Int) + 1 < 4 := by omega
          have hqi0 : (0 : Int) ≤ (q : Int) + 1 := by omega
          have e1 : (X :: m :: ns).reverse = M ++ [X] := by rw [List.reverse_cons, HMr.out]
          have e2 : (Y :: t :: ts).reverse = S ++ [Y] := by rw [List.reverse_cons, HSr.out]
          have E1 := hide e1
          have E2 := hide e2
          clear e1 e2
          go_wp2
          go_roundw
          · refine mrel_step hlt hst2.out ?_ (by have := Hixi.out; omega)
            rw [E1.out, E2.out]
            exact HMore2.out
          · first | (simp [intOf]; done) | (simp [intOf]; omega)
    · have hkk : k = xs.length := by omega
      subst hkk
      have hA : mgL xs ss xs.length = (mrg xs ss).1 := by unfold mgL; rw [Nat.sub_self]; rfl
      have hB : mgS xs ss xs.length = (mrg xs ss).2 := by unfold mgS; rw [Nat.sub_self]; rfl
      rw [hA, hB] at HM
      have Hans2 := Hans.out
      subst Hans2
      clear hA hB Hans
      have hneg : ((xs.length : Int) - 1 - xs.length) = -1 := by omega
      rw [hneg]
      generalize hM1 : (mrg xs ss).1.reverse = M at HM
      generalize hS1 : (mrg xs ss).2.reverse = S at HM
      have HM1 := hide hM1
      have HS1 := hide hS1
      clear hM1 hS1
      have z0 := HM.out.o0
      have z1 : wr.cell? ⟨B, 1, none⟩ = _ := HM.out.ol 0 (by omega)
      have z2 : wr.cell? ⟨B, 2, none⟩ = _ := HM.out.ol 1 (by omega)
      have z3 : wr.cell? ⟨B, 3, none⟩ = _ := HM.out.ol 2 (by omega)
      have z4 : wr.cell? ⟨B, 4, none⟩ = _ := HM.out.ol 3 (by omega)
      have z5 : wr.cell? ⟨B, 5, none⟩ = _ := HM.out.os 0 (by omega)
      have z6 : wr.cell? ⟨B, 6, none⟩ = _ := HM.out.os 1 (by omega)
      have z7 : wr.cell? ⟨B, 7, none⟩ = _ := HM.out.os 2 (by omega)
      have z8 : wr.cell? ⟨B, 8, none⟩ = _ := HM.out.os 3 (by omega)
      have z9 := HM.out.o9
      have rr := HM.out.r
      have rr0 := rr 0 (by omega)
      have rr1 := rr 1 (by omega)
      have rr2 := rr 2 (by omega)
      have rr3 := rr 3 (by omega)
      have rr4 := rr 4 (by omega)
      have rr5 := rr 5 (by omega)
      have rr6 := rr 6 (by omega)
      have rr7 := rr 7 (by omega)
      have rr8 := rr 8 (by omega)
      have rr9 := rr 9 (by omega)
      have rf := fun o => HM.out.ex.unfrozen (b := w.heap.size + 1) (by omega) o
      have HE := hide HM.out.ex
      have HRR := hide rr
      clear rr
      generalize hT0 : M.getD 0 0 = t0 at z1
      have HT0 := hide hT0
      clear hT0
      generalize hT1 : M.getD 1 0 = t1 at z2
      have HT1 := hide hT1
      clear hT1
      generalize hT2 : M.getD 2 0 = t2 at z3
      have HT2 := hide hT2
      clear hT2
      generalize hT3 : M.getD 3 0 = t3 at z4
      have HT3 := hide hT3
      clear hT3
      generalize hU0 : S.getD 0 0 = u0 at z5
      have HU0 := hide hU0
      clear hU0
      generalize hU1 : S.getD 1 0 = u1 at z6
      have HU1 := hide hU1
      clear hU1
      generalize hU2 : S.getD 2 0 = u2 at z7
      have HU2 := hide hU2
      clear hU2
      generalize hU3 : S.getD 3 0 = u3 at z8
      have HU3 := hide hU3
      clear hU3
      go_wp2
      obtain ⟨q0, q1, q2, q3, q4, q5, q6, q7, q8, q9⟩ := chain10 HRR.out (.int .i64 (M.length : Int)) (.int .i64 t0) (.int .i64 t1) (.int .i64 t2) (.int .i64 t3) (.int .i64 u0) (.int .i64 u1) (.int .i64 u2) (.int .i64 u3) (.int .i64 off)
      exact bodyPost_ret (v := .agg #[.int .i64 (M.length : Int), .int .i64 t0, .int .i64 t1, .int .i64 t2, .int .i64 t3, .int .i64 u0, .int .i64 u1, .int .i64 u2, .int .i64 u3, .int .i64 off]) (by simp [results, Try.results83, go_sem, q0, q1, q2, q3, q4, q5, q6, q7, q8, q9]) rfl ⟨by unfold vw; rw [HM1.out, HS1.out, HT0.out, HT1.out, HT2.out, HT3.out, HU0.out, HU1.out, HU2.out, HU3.out], by repeat (first | with_reducible exact HE.out | with_reducible refine Ext.setCell ?_ (by show w.heap.size ≤ w.heap.size + 1; omega) _)⟩
end Go.Proofs.Ytiekkninnjffpaa
