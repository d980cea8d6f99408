import Derived.Test.YtiekkninnjffpaaMerge
import Derived.Test.YtiekkninnjffpaaSliced
namespace Go.Proofs.Ytiekkninnjffpaa
open Go.ChangeShapes Go.RowKit
set_option linter.unusedSimpArgs false
set_option linter.unusedVariables false

/-- The world of the loop: f at w.heap.size, the answer behind it, out at B; the merged axes lie the fastest first. -/
structure MW (w W : World) (B : Nat) (xs ss : List Int) (off : Int) (M S : List Int) : Prop where
  fl : ∀ j, j < 4 → W.cell? ⟨w.heap.size, 1 + j, none⟩ = some (.int .i64 (xs.getD j 0))
  fs : ∀ j, j < 4 → W.cell? ⟨w.heap.size, 5 + j, none⟩ = some (.int .i64 (ss.getD j 0))
  r : ∀ j, j < 10 → W.cell? ⟨w.heap.size + 1, j, none⟩ = some (.int .i64 0)
  o0 : W.cell? ⟨B, 0, none⟩ = some (.int .i64 M.length)
  ol : ∀ j, j < 4 → W.cell? ⟨B, 1 + j, none⟩ = some (.int .i64 (M.getD j 0))
  os : ∀ j, j < 4 → W.cell? ⟨B, 5 + j, none⟩ = some (.int .i64 (S.getD j 0))
  o9 : W.cell? ⟨B, 9, none⟩ = some (.int .i64 off)
  ex : Ext w W
  hB : w.heap.size + 1 < B
theorem MW.drew {w W : World} {B : Nat} {xs ss : List Int} {off : Int} {M S : List Int} (h : MW w W B xs ss off M S) : MW w W.drew B xs ss off M S :=
  ⟨h.fl, h.fs, h.r, h.o0, h.ol, h.os, h.o9, h.ex.drew, h.hB⟩
theorem snoc_getD (M : List Int) (x : Int) (j : Nat) : (M ++ [x]).getD j 0 = if j = M.length then x else M.getD j 0 := by
  by_cases h : j = M.length
  · subst h; rw [if_pos rfl]; simp [List.getD_eq_getElem?_getD]
  · rw [if_neg h]
    by_cases h2 : j < M.length
    · simp [List.getD_eq_getElem?_getD, List.getElem?_append, h2]
    · have h3 : M.length < j := by omega
      rw [List.getD_eq_getElem?_getD, List.getD_eq_getElem?_getD, List.getElem?_eq_none (by simp; omega), List.getElem?_eq_none (by omega)]
/-- The last merged axis grows. -/
theorem MW.grow {w W : World} {B : Nat} {xs ss : List Int} {off : Int} {M S : List Int} (h : MW w W B xs ss off M S) (a : Nat) (ha : a < M.length) (h4 : a < 4) (c : Int) : MW w (W.setCell ⟨B, 1 + a, none⟩ (.int .i64 c)) B xs ss off (M.set a c) S := by
  have hB := h.hB
  have m : Mut B W (W.setCell ⟨B, 1 + a, none⟩ (.int .i64 c)) := (Mut.refl _ _).setCell _ _
  refine ⟨fun j hj => m.box (by omega) (h.fl j hj), fun j hj => m.box (by omega) (h.fs j hj), fun j hj => m.box (by omega) (h.r j hj), ?_, fun j hj => ?_, fun j hj => near (by omega) (h.os j hj), near (by omega) h.o9, h.ex.setCell (by show w.heap.size ≤ B; omega) _, hB⟩
  · rw [List.length_set]; exact near (by omega) h.o0
  · rw [set_getD M a c ha j]
    by_cases e : a = j
    · subst e; rw [if_pos rfl]; exact World.cell?_setCell_same _ _ _ (h.ol a hj)
    · rw [if_neg e]; exact near (by omega) (h.ol j hj)
/-- One merged axis more. -/
theorem MW.more {w W : World} {B : Nat} {xs ss : List Int} {off : Int} {M S : List Int} (h : MW w W B xs ss off M S) (hl : S.length = M.length) (h4 : M.length < 4) (x y : Int) :
    MW w (((W.setCell ⟨B, 1 + M.length, none⟩ (.int .i64 x)).setCell ⟨B, 5 + M.length, none⟩ (.int .i64 y)).setCell ⟨B, 0, none⟩ (.int .i64 ((M.length : Int) + 1))) B xs ss off (M ++ [x]) (S ++ [y]) := by
  have hB := h.hB
  have m : Mut B W (((W.setCell ⟨B, 1 + M.length, none⟩ (.int .i64 x)).setCell ⟨B, 5 + M.length, none⟩ (.int .i64 y)).setCell ⟨B, 0, none⟩ (.int .i64 ((M.length : Int) + 1))) := (((Mut.refl _ _).setCell _ _).setCell _ _).setCell _ _
  refine ⟨fun j hj => m.box (by omega) (h.fl j hj), fun j hj => m.box (by omega) (h.fs j hj), fun j hj => m.box (by omega) (h.r j hj), ?_, fun j hj => ?_, fun j hj => ?_, near (by omega) (near (by omega) (near (by omega) h.o9)), ((h.ex.setCell (by show w.heap.size ≤ B; omega) _).setCell (by show w.heap.size ≤ B; omega) _).setCell (by show w.heap.size ≤ B; omega) _, hB⟩
  · rw [List.length_append]
    exact World.cell?_setCell_same _ _ _ (near (by omega) (near (by omega) h.o0))
  · rw [snoc_getD]
    refine near (by omega) (near (by omega) ?_)
    by_cases e : j = M.length
    · subst e; rw [if_pos rfl]; exact World.cell?_setCell_same _ _ _ (h.ol _ hj)
    · rw [if_neg e]; exact near (by omega) (h.ol j hj)
  · rw [snoc_getD, hl]
    refine near (by omega) ?_
    by_cases e : j = M.length
    · subst e; rw [if_pos rfl]; exact World.cell?_setCell_same _ _ _ (near (by omega) (h.os _ hj))
    · rw [if_neg e]; exact near (by omega) (near (by omega) (h.os j hj))

/-- What is merged when k axes are gone through. -/
def mgL (xs ss : List Int) (k : Nat) : List Int := (mrg (xs.drop (xs.length - k)) (ss.drop (xs.length - k))).1
def mgS (xs ss : List Int) (k : Nat) : List Int := (mrg (xs.drop (xs.length - k)) (ss.drop (xs.length - k))).2
theorem mg_step (xs ss : List Int) (k : Nat) (hl : ss.length = xs.length) (hk : k < xs.length) : (mgL xs ss (k + 1), mgS xs ss (k + 1)) = mrg1 (xs.getD (xs.length - 1 - k) 0) (ss.getD (xs.length - 1 - k) 0) (mgL xs ss k) (mgS xs ss k) := by
  unfold mgL mgS
  have e : xs.length - (k + 1) = xs.length - 1 - k := by omega
  have e2 : xs.length - k = xs.length - 1 - k + 1 := by omega
  have d1 : xs.drop (xs.length - 1 - k) = xs.getD (xs.length - 1 - k) 0 :: xs.drop (xs.length - 1 - k + 1) := by
    rw [List.drop_eq_getElem_cons (by omega), List.getD_eq_getElem?_getD, List.getElem?_eq_getElem (by omega)]; rfl
  have d2 : ss.drop (xs.length - 1 - k) = ss.getD (xs.length - 1 - k) 0 :: ss.drop (xs.length - 1 - k + 1) := by
    rw [List.drop_eq_getElem_cons (by omega), List.getD_eq_getElem?_getD, List.getElem?_eq_getElem (by omega)]; rfl
  rw [e, e2, d1, d2]
  rfl
theorem mg_len (xs ss : List Int) (k : Nat) (hl : ss.length = xs.length) : (mgS xs ss k).length = (mgL xs ss k).length := (mrg_len _ _ (by simp; omega)).symm
theorem mg_zero (xs ss : List Int) (hl : ss.length = xs.length) : mgL xs ss 0 = [] ∧ mgS xs ss 0 = [] := by
  unfold mgL mgS
  rw [Nat.sub_zero, List.drop_length, List.drop_of_length_le (by omega)]
  exact ⟨rfl, rfl⟩
theorem mg_le (xs ss : List Int) (hl : ss.length = xs.length) : ∀ k, k ≤ xs.length → (mgL xs ss k).length ≤ k
  | 0, _ => by rw [(mg_zero xs ss hl).1]; simp
  | k + 1, hk => by
    have := mg_le xs ss hl k (by omega)
    have e := congrArg Prod.fst (mg_step xs ss k hl (by omega))
    rw [show mgL xs ss (k + 1) = _ from e]
    have := mrg1_le (xs.getD (xs.length - 1 - k) 0) (ss.getD (xs.length - 1 - k) 0) (mgL xs ss k) (mgS xs ss k) (mg_len xs ss k hl).symm
    omega
def MRel (w : World) (B : Nat) (xs ss : List Int) (off : Int) (i : Value) (W : World) : Prop := ∃ k : Nat, i = .int .i64 ((xs.length : Int) - 1 - k) ∧ k ≤ xs.length ∧ MW w W B xs ss off (mgL xs ss k).reverse (mgS xs ss k).reverse

theorem bd_mul {k : Nat} {m n : Int} (hk : k < 4) (hm : 0 ≤ m ∧ m ≤ bd k) (hn : 0 ≤ n ∧ n ≤ 4096) : 0 ≤ m * n ∧ m * n ≤ bd (k + 1) := by
  refine ⟨Int.mul_nonneg hm.1 hn.1, ?_⟩
  have h1 : m * n ≤ bd k * 4096 := Int.mul_le_mul hm.2 hn.2 hn.1 (Int.le_trans hm.1 hm.2)
  have h2 : bd k * 4096 = bd (k + 1) := by
    obtain rfl | rfl | rfl | rfl : k = 0 ∨ k = 1 ∨ k = 2 ∨ k = 3 := by omega
    all_goals decide
  omega
theorem bd_up (k : Nat) (hk : k < 4) : bd k ≤ bd (k + 1) ∧ 4096 ≤ bd (k + 1) := by
  obtain rfl | rfl | rfl | rfl : k = 0 ∨ k = 1 ∨ k = 2 ∨ k = 3 := by omega
  all_goals decide
theorem mrg1_bd {k : Nat} {n s : Int} (hk : k < 4) (hn : 0 ≤ n ∧ n ≤ 4096) (hs : -4096 ≤ s ∧ s ≤ 4096) : ∀ (ns ts : List Int), ns.length = ts.length → (∀ m ∈ ns, 0 ≤ m ∧ m ≤ bd k) → (∀ t ∈ ts, -4096 ≤ t ∧ t ≤ 4096) →
    (∀ m ∈ (mrg1 n s ns ts).1, 0 ≤ m ∧ m ≤ bd (k + 1)) ∧ (∀ t ∈ (mrg1 n s ns ts).2, -4096 ≤ t ∧ t ≤ 4096)
  | [], [], _, _, _ => by
    have := bd_up k hk
    rw [mrg1_nil]
    split
    · simp
    · simp; omega
  | m :: ns, t :: ts, _, h1, h2 => by
    have hb := bd_up k hk
    have up : ∀ x, 0 ≤ x ∧ x ≤ bd k → 0 ≤ x ∧ x ≤ bd (k + 1) := fun x hx => by omega
    have hm := h1 m (List.mem_cons_self ..)
    have hr : ∀ x ∈ ns, 0 ≤ x ∧ x ≤ bd (k + 1) := fun x hx => up x (h1 x (List.mem_cons_of_mem _ hx))
    rw [mrg1_cons]
    split
    · exact ⟨fun x hx => up x (h1 x hx), h2⟩
    · split
      · refine ⟨fun x hx => ?_, h2⟩
        rcases List.mem_cons.1 hx with rfl | hx
        · exact bd_mul hk hm hn
        · exact hr x hx
      · refine ⟨fun x hx => ?_, fun x hx => ?_⟩
        · rcases List.mem_cons.1 hx with rfl | hx
          · omega
          · exact up x (h1 x hx)
        · rcases List.mem_cons.1 hx with rfl | hx
          · exact hs
          · exact h2 x hx
  | [], _ :: _, h, _, _ => by simp at h
  | _ :: _, [], h, _, _ => by simp at h
theorem mg_bd (xs ss : List Int) (h4 : xs.length ≤ 4) (hl : ss.length = xs.length) (hr : InR xs xs.length) (hss : InS ss ss.length) : ∀ k, k ≤ xs.length → (∀ m ∈ mgL xs ss k, 0 ≤ m ∧ m ≤ bd k) ∧ (∀ t ∈ mgS xs ss k, -4096 ≤ t ∧ t ≤ 4096)
  | 0, _ => by rw [(mg_zero xs ss hl).1, (mg_zero xs ss hl).2]; simp
  | k + 1, hk => by
    have ih := mg_bd xs ss h4 hl hr hss k (by omega)
    have e := mg_step xs ss k hl (by omega)
    have e1 := congrArg Prod.fst e
    have e2 := congrArg Prod.snd e
    rw [show mgL xs ss (k + 1) = _ from e1, show mgS xs ss (k + 1) = _ from e2]
    exact mrg1_bd (by omega) (hr _ (by omega)) (hss _ (by omega)) _ _ (mg_len xs ss k hl).symm ih.1 ih.2
theorem rev_last (m : Int) (ns : List Int) : (m :: ns).reverse.getD ns.length 0 = m := by
  rw [List.reverse_cons, snoc_getD, if_pos (by simp)]
theorem rev_set (m c : Int) (ns : List Int) : (m :: ns).reverse.set ns.length c = (c :: ns).reverse := by
  rw [List.reverse_cons, List.reverse_cons, List.set_append_right _ _ (by simp)]
  simp
theorem mrel_step {w W : World} {B : Nat} {xs ss : List Int} {off : Int} {k : Nat} (hk : k < xs.length) {L S : List Int} (e : (mgL xs ss (k + 1), mgS xs ss (k + 1)) = (L, S)) (h : MW w W B xs ss off L.reverse S.reverse) {i : Int} (hi : i = (xs.length : Int) - 1 - ((k + 1 : Nat) : Int)) : MRel w B xs ss off (.int .i64 i) W := by
  have e1 : mgL xs ss (k + 1) = L := congrArg Prod.fst e
  have e2 : mgS xs ss (k + 1) = S := congrArg Prod.snd e
  exact ⟨k + 1, by rw [hi], by omega, by rw [e1, e2]; exact h⟩

theorem mrg1_one (s : Int) : ∀ (ns ts : List Int), mrg1 1 s ns ts = (ns, ts)
  | [], [] => rfl
  | [], _ :: _ => rfl
  | _ :: _, [] => rfl
  | _ :: _, _ :: _ => rfl

set_option maxRecDepth 100000 in
set_option maxHeartbeats 4000000 in
theorem merged_any (w : World) (xs ss : List Int) (off : Int) (h4 : xs.length ≤ 4) (hl : ss.length = xs.length) (hr : InR xs xs.length) (hss : InS ss ss.length) :
    Calls Try.prog 83 #[.agg (vw xs ss off)] w fun e w' => e = .returned (.agg (vw (mrg xs ss).1.reverse (mrg xs ss).2.reverse off)) ∧ Ext w w' := by
  have x0 : Ext w ((w.alloc (.cells (vw xs ss off) 64)).alloc (.cells #[.int .i64 0, .int .i64 0, .int .i64 0, .int .i64 0, .int .i64 0, .int .i64 0, .int .i64 0, .int .i64 0, .int .i64 0, .int .i64 0] 64)) := ((Ext.refl w).alloc _ _).alloc _ _
  have y1 : Ext (w.alloc (.cells (vw xs ss off) 64)) ((w.alloc (.cells (vw xs ss off) 64)).alloc (.cells #[.int .i64 0, .int .i64 0, .int .i64 0, .int .i64 0, .int .i64 0, .int .i64 0, .int .i64 0, .int .i64 0, .int .i64 0, .int .i64 0] 64)) := (Ext.refl _).alloc _ _
  have n1 := fun j => new_cell w (vw xs ss off) 64 w.heap.size rfl j
  have n2 := fun j => new_cell (w.alloc (.cells (vw xs ss off) 64)) #[.int .i64 0, .int .i64 0, .int .i64 0, .int .i64 0, .int .i64 0, .int .i64 0, .int .i64 0, .int .i64 0, .int .i64 0, .int .i64 0] 64 (w.heap.size + 1) (by simp) j
  have S0 : Hid (FW w ((w.alloc (.cells (vw xs ss off) 64)).alloc (.cells #[.int .i64 0, .int .i64 0, .int .i64 0, .int .i64 0, .int .i64 0, .int .i64 0, .int .i64 0, .int .i64 0, .int .i64 0, .int .i64 0] 64)) xs.length xs ss off) := by
    refine ⟨y1.box (n1 0), fun j hj => ?_, fun j hj => ?_, y1.box (n1 9), fun j hj => ?_, x0⟩
    · obtain rfl | rfl | rfl | rfl : j = 0 ∨ j = 1 ∨ j = 2 ∨ j = 3 := by omega
      · exact y1.box (n1 1)
      · exact y1.box (n1 2)
      · exact y1.box (n1 3)
      · exact y1.box (n1 4)
    · obtain rfl | rfl | rfl | rfl : j = 0 ∨ j = 1 ∨ j = 2 ∨ j = 3 := by omega
      · exact y1.box (n1 5)
      · exact y1.box (n1 6)
      · exact y1.box (n1 7)
      · exact y1.box (n1 8)
    · obtain rfl | rfl | rfl | rfl | rfl | rfl | rfl | rfl | rfl | rfl : j = 0 ∨ j = 1 ∨ j = 2 ∨ j = 3 ∨ j = 4 ∨ j = 5 ∨ j = 6 ∨ j = 7 ∨ j = 8 ∨ j = 9 := by omega
      all_goals exact n2 _
  have sz0 : Hid (((w.alloc (.cells (vw xs ss off) 64)).alloc (.cells #[.int .i64 0, .int .i64 0, .int .i64 0, .int .i64 0, .int .i64 0, .int .i64 0, .int .i64 0, .int .i64 0, .int .i64 0, .int .i64 0] 64)).heap.size = w.heap.size + 1 + 1) := by show ((w.alloc (.cells (vw xs ss off) 64)).alloc (.cells #[.int .i64 0, .int .i64 0, .int .i64 0, .int .i64 0, .int .i64 0, .int .i64 0, .int .i64 0, .int .i64 0, .int .i64 0, .int .i64 0] 64)).heap.size = _; simp
  clear x0 y1 n1 n2
  generalize hans : (fun (e : Ending) (w' : World) => e = .returned (.agg (vw (mrg xs ss).1.reverse (mrg xs ss).2.reverse off)) ∧ Ext w w') = ANS
  have Hans := hide hans
  clear hans
  have f0 := S0.out.c0
  have f9 := S0.out.c9
  unfold vw at S0 f0 f9 sz0 ⊢
  generalize xs.getD 0 0 = e0 at S0 f0 f9 sz0 ⊢
  generalize xs.getD 1 0 = e1 at S0 f0 f9 sz0 ⊢
  generalize xs.getD 2 0 = e2 at S0 f0 f9 sz0 ⊢
  generalize xs.getD 3 0 = e3 at S0 f0 f9 sz0 ⊢
  generalize ss.getD 0 0 = e4 at S0 f0 f9 sz0 ⊢
  generalize ss.getD 1 0 = e5 at S0 f0 f9 sz0 ⊢
  generalize ss.getD 2 0 = e6 at S0 f0 f9 sz0 ⊢
  generalize ss.getD 3 0 = e7 at S0 f0 f9 sz0 ⊢
  go_enter Try.func83, Try.ntmps83
  go_wp2_with fail
  generalize hV0 : ((w.alloc (.cells #[.int .i64 xs.length, .int .i64 e0, .int .i64 e1, .int .i64 e2, .int .i64 e3, .int .i64 e4, .int .i64 e5, .int .i64 e6, .int .i64 e7, .int .i64 off] 64)).alloc (.cells #[.int .i64 0, .int .i64 0, .int .i64 0, .int .i64 0, .int .i64 0, .int .i64 0, .int .i64 0, .int .i64 0, .int .i64 0, .int .i64 0] 64)) = V0 at S0 f0 f9 sz0 ⊢
  clear hV0
  have y3 : Ext V0 (V0.alloc (.cells #[.int .i64 0, .int .i64 0, .int .i64 0, .int .i64 0, .int .i64 0, .int .i64 0, .int .i64 0, .int .i64 0, .int .i64 0, .int .i64 off] 64)) := (Ext.refl V0).alloc _ _
  have n3 := fun j => new_cell V0 #[.int .i64 0, .int .i64 0, .int .i64 0, .int .i64 0, .int .i64 0, .int .i64 0, .int .i64 0, .int .i64 0, .int .i64 0, .int .i64 off] 64 (w.heap.size + 1 + 1) (by rw [sz0.out]) j
  have M0 : Hid (MW w (V0.alloc (.cells #[.int .i64 0, .int .i64 0, .int .i64 0, .int .i64 0, .int .i64 0, .int .i64 0, .int .i64 0, .int .i64 0, .int .i64 0, .int .i64 off] 64)) (w.heap.size + 1 + 1) xs ss off (mgL xs ss 0).reverse (mgS xs ss 0).reverse) := by
    rw [(mg_zero xs ss hl).1, (mg_zero xs ss hl).2]
    refine ⟨fun j hj => y3.box (S0.out.l j hj), fun j hj => y3.box (S0.out.s j hj), fun j hj => y3.box (S0.out.r j hj), n3 0, fun j hj => ?_, fun j hj => ?_, n3 9, S0.out.ex.trans y3, by omega⟩
    · obtain rfl | rfl | rfl | rfl : j = 0 ∨ j = 1 ∨ j = 2 ∨ j = 3 := by omega
      all_goals exact n3 _
    · obtain rfl | rfl | rfl | rfl : j = 0 ∨ j = 1 ∨ j = 2 ∨ j = 3 := by omega
      all_goals exact n3 _
  clear y3 n3 S0 f0 f9 sz0
  have Hl := hide hl
  have HR := hide hr
  have HSS := hide hss
  clear hl hr hss
  generalize hBB : w.heap.size + 1 + 1 = B at M0 ⊢
  have HBB : Hid (w.heap.size + 1 < B) := by show w.heap.size + 1 < B; omega
  clear hBB
  go_loopw [4] (fun i W => MRel w B xs ss off i W) (fun i _ => (intOf i + 1).toNat)
  case atStart => exact ⟨0, by simp, by omega, M0.out⟩
  case round =>
    obtain ⟨k, rfl, hk, hM⟩ := hrel
    have HM := hide hM
    clear hM
    by_cases hlt : k < xs.length
    · have hge : (0 : Int) ≤ (xs.length : Int) - 1 - k := by omega
      obtain ⟨ix, hix⟩ : ∃ ix : Nat, xs.length - 1 - k = ix := ⟨_, rfl⟩
      have hixi : (xs.length : Int) - 1 - k = (ix : Int) := by omega
      have hix4 : ix < 4 := by omega
      have hixx : ix < xs.length := by omega
      have hi0 : (0 : Int) ≤ (ix : Int) := Int.natCast_nonneg _
      have hi44 : (ix : Int) < 4 := by omega
      have qx := HM.out.fl ix hix4
      have qs := HM.out.fs ix hix4
      have hX := HR.out ix hixx
      have hY := HSS.out ix (by have := Hl.out; omega)
      have hbd := mg_bd xs ss h4 Hl.out HR.out HSS.out k (by omega)
      have hml := mg_le xs ss Hl.out k (by omega)
      have hsl := mg_len xs ss k Hl.out
      have hstep := hide (mg_step xs ss k Hl.out hlt)
      rw [hix] at hstep
      generalize mgL xs ss k = ML at HM hbd hml hsl hstep
      generalize mgS xs ss k = MS at HM hbd hsl hstep
      generalize xs.getD ix 0 = X at qx hX hstep
      generalize ss.getD ix 0 = Y at qs hY hstep
      have Hix := hide hix
      have Hixi := hide hixi
      clear hix
      rw [hixi]
      clear hixi hge
      have HMd := hide HM.out.drew
      generalize hMr : ML.reverse = M at HM HMd
      generalize hSr : MS.reverse = S at HM HMd
      have HMr := hide hMr
      have HSr := hide hSr
      have hMl : M.length = ML.length := by rw [← hMr]; simp
      have hSl : S.length = MS.length := by rw [← hSr]; simp
      have hM4 : M.length < 4 := by omega
      have hSM : S.length = M.length := by omega
      clear hMr hSr
      have o0 := HMd.out.o0
      by_cases hX1 : X = 1
      · subst hX1
        have hst2 := hide (hstep.out.trans (mrg1_one _ _ _))
        have HMl := hide hMl
        have HSl := hide hSl
        have Hs := hide hsl
        clear hMl hSl hsl hSM
        go_wp2_with fail
        go_region
        go_wp2
        go_roundw
        · exact mrel_step hlt hst2.out (by rw [HMr.out, HSr.out]; exact HMd.out) (by have := Hixi.out; omega)
        · first | (simp [intOf]; done) | (simp [intOf]; omega)
      have hXn : (X == 1) = false := by simp [hX1]
      cases ML with
      | nil =>
        obtain rfl : MS = [] := List.eq_nil_of_length_eq_zero hsl
        have e1 : M = [] := HMr.out.symm
        have e2 : S = [] := HSr.out.symm
        subst e1
        subst e2
        have hst2 := hide (hstep.out.trans ((mrg1_nil _ _).trans (if_neg hX1)))
        clear hsl hMl hSl hSM hM4 hml
        go_wp2_with fail
        go_region
        generalize hWW : wr.drew = WW at HMd o0 ⊢
        clear hWW HM qx qs
        go_wp2_with fail
        go_region
        have HMM := hide HMd.out.drew
        generalize hW2 : WW.drew = W2 at HMM ⊢
        clear hW2 HMd o0
        have o0 : W2.cell? ⟨B, 0, none⟩ = some (.int .i64 0) := HMM.out.o0
        have g1 : W2.cell? ⟨B, 1, none⟩ = some (.int .i64 0) := HMM.out.ol 0 (by omega)
        have g5 : W2.cell? ⟨B, 5, none⟩ = some (.int .i64 0) := HMM.out.os 0 (by omega)
        have g5b : (W2.setCell ⟨B, 1, none⟩ (.int .i64 X)).cell? ⟨B, 5, none⟩ = some (.int .i64 0) := near (by omega) g5
        have o0c : ((W2.setCell ⟨B, 1, none⟩ (.int .i64 X)).setCell ⟨B, 5, none⟩ (.int .i64 Y)).cell? ⟨B, 0, none⟩ = some (.int .i64 0) := near (by omega) (near (by omega) o0)
        have hbf := fun o => HMM.out.ex.unfrozen (b := B) (by have := HMM.out.hB; omega) o
        have HMore : Hid (MW w (((W2.setCell ⟨B, 1, none⟩ (.int .i64 X)).setCell ⟨B, 5, none⟩ (.int .i64 Y)).setCell ⟨B, 0, none⟩ (.int .i64 1)) B xs ss off [X] [Y]) := HMM.out.more rfl (by simp) X Y
        go_wp2
        go_roundw
        · exact mrel_step hlt hst2.out HMore.out (by have := Hixi.out; omega)
        · first | (simp [intOf]; done) | (simp [intOf]; omega)
      | cons m ns =>
        obtain ⟨t, ts, rfl⟩ : ∃ t ts, MS = t :: ts := by
          cases MS with
          | nil => simp at hsl
          | cons t ts => exact ⟨t, ts, rfl⟩
        have hqs : ts.length = ns.length := by simpa using hsl
        obtain ⟨q, hq⟩ : ∃ q : Nat, ns.length = q := ⟨_, rfl⟩
        have hMq : M.length = q + 1 := by rw [hMl]; simp [hq]
        have hSq : S.length = q + 1 := by omega
        have hm := hbd.1 m (List.mem_cons_self ..)
        have ht := hbd.2 t (List.mem_cons_self ..)
        have hb4 := bd_le k
        have mm : M.getD q 0 = m := by rw [← HMr.out, ← hq]; exact rev_last m ns
        have tt : S.getD q 0 = t := by rw [← HSr.out, ← hq, ← hqs]; exact rev_last t ts
        have hq4 : q < 4 := by omega
        have hq3 : q + 1 < 4 := by omega
        have hq0 : (0 : Int) ≤ (q : Int) := Int.natCast_nonneg _
        have hq44 : (q : Int) < 4 := by omega
        have c1 := HMd.out.ol q hq4
        have c5 := HMd.out.os q hq4
        rw [mm] at c1
        rw [tt] at c5
        have o0q : wr.drew.cell? ⟨B, 0, none⟩ = some (.int .i64 ((q : Int) + 1)) := by rw [o0, hMq]; simp
        have htm : -4096 * 281474976710656 ≤ t * m ∧ t * m ≤ 4096 * 281474976710656 := by
          have h1 := mul_between m (281474976710656 + 1) t (by omega) (by omega)
          have h2 : m * t = t * m := Int.mul_comm _ _
          omega
        have hwm : IntKind.i64.wrap (t * m) = t * m := by rw [IntKind.wrap_i64]; omega
        have hmX := bd_mul (k := k) (by omega) hm hX
        have hb5 := bd_le (k + 1)
        have hwp : IntKind.i64.wrap (m * X) = m * X := by rw [IntKind.wrap_i64]; omega
        have HMl := hide hMl
        have HMq := hide hMq
        have HSq := hide hSq
        have Hq := hide hq
        have Hqs := hide hqs
        have Hsl := hide hsl
        have HSM := hide hSM
        have HM4 := hide hM4
        clear hMl hMq hSq hq hqs hsl hSM hM4 hSl hml o0 mm tt hmX htm hb4 hb5 hm ht hbd
        go_wp2_with fail
        go_region
        generalize hWW : wr.drew = WW at HMd o0q c1 c5 ⊢
        clear hWW HM qx qs
        have SA : Hid ((fun w' => w'.cell? ⟨B, 5 + q, none⟩ = some (.int .i64 t) ∧ w'.cell? ⟨B, 1 + q, none⟩ = some (.int .i64 m)) WW.drew) := ⟨c5, c1⟩
        go_wp2_with fail
        go_region_held3 (fun w' => w'.cell? ⟨B, 5 + q, none⟩ = some (.int .i64 t) ∧ w'.cell? ⟨B, 1 + q, none⟩ = some (.int .i64 m)) (first | with_reducible exact SA.out | exact SA.out | fail) (fail)
        have HMM := hide HMd.out.drew
        generalize hW2 : WW.drew = W2 at HMM ⊢
        clear hW2 HMd o0q c1 c5 SA
        have c1 : W2.cell? ⟨B, 1 + q, none⟩ = some (.int .i64 m) := by
          have := HMM.out.ol q hq4
          rw [← HMr.out, ← Hq.out, rev_last] at this
          rw [← Hq.out]; exact this
        have hbf := fun o => HMM.out.ex.unfrozen (b := B) (by have := HMM.out.hB; omega) o
        by_cases hYt : Y = t * m
        · subst hYt
          have hst2 := hide (hstep.out.trans ((mrg1_cons _ _ _ _ _ _).trans ((if_neg hX1).trans (if_pos rfl))))
          have HG := hide (HMM.out.grow q (by have := HMq.out; omega) hq4 (m * X))
          go_wp2
          go_roundw
          · refine mrel_step hlt hst2.out ?_ (by have := Hixi.out; omega)
            have g := HG.out
            rw [← HMr.out, ← Hq.out, rev_set] at g
            rw [Hq.out] at g
            rw [HSr.out]
            exact g
          · first | (simp [intOf]; done) | (simp [intOf]; omega)
        · have hYn : (Y == t * m) = false := by simp [hYt]
          have hst2 := hide (hstep.out.trans ((mrg1_cons _ _ _ _ _ _).trans ((if_neg hX1).trans (if_neg hYt))))
          have g1 := HMM.out.ol (q + 1) hq3
          have g5 := HMM.out.os (q + 1) hq3
          have o0 : W2.cell? ⟨B, 0, none⟩ = some (.int .i64 ((q : Int) + 1)) := by rw [HMM.out.o0, HMq.out]; simp
          have HMore := HMM.out.more HSM.out HM4.out X Y
          rw [HMq.out, show (((q + 1 : Nat) : Int) + 1) = (q : Int) + 1 + 1 by omega] at HMore
          have g5b : (W2.setCell ⟨B, 1 + (q + 1), none⟩ (.int .i64 X)).cell? ⟨B, 5 + (q + 1), none⟩ = _ := near (by omega) g5
          have o0c : ((W2.setCell ⟨B, 1 + (q + 1), none⟩ (.int .i64 X)).setCell ⟨B, 5 + (q + 1), none⟩ (.int .i64 Y)).cell? ⟨B, 0, none⟩ = some (.int .i64 ((q : Int) + 1)) := near (by omega) (near (by omega) o0)
          have HMore2 := hide HMore
          clear HMore
          have hqi : (q : Int) + 1 < 4 := by omega
          have hqi0 : (0 : Int) ≤ (q : Int) + 1 := by omega
          have e1 : (X :: m :: ns).reverse = M ++ [X] := by rw [List.reverse_cons, HMr.out]
          have e2 : (Y :: t :: ts).reverse = S ++ [Y] := by rw [List.reverse_cons, HSr.out]
          have E1 := hide e1
          have E2 := hide e2
          clear e1 e2
          go_wp2
          go_roundw
          · refine mrel_step hlt hst2.out ?_ (by have := Hixi.out; omega)
            rw [E1.out, E2.out]
            exact HMore2.out
          · first | (simp [intOf]; done) | (simp [intOf]; omega)
    · have hkk : k = xs.length := by omega
      subst hkk
      have hA : mgL xs ss xs.length = (mrg xs ss).1 := by unfold mgL; rw [Nat.sub_self]; rfl
      have hB : mgS xs ss xs.length = (mrg xs ss).2 := by unfold mgS; rw [Nat.sub_self]; rfl
      rw [hA, hB] at HM
      have Hans2 := Hans.out
      subst Hans2
      clear hA hB Hans
      have hneg : ((xs.length : Int) - 1 - xs.length) = -1 := by omega
      rw [hneg]
      generalize hM1 : (mrg xs ss).1.reverse = M at HM
      generalize hS1 : (mrg xs ss).2.reverse = S at HM
      have HM1 := hide hM1
      have HS1 := hide hS1
      clear hM1 hS1
      have z0 := HM.out.o0
      have z1 : wr.cell? ⟨B, 1, none⟩ = _ := HM.out.ol 0 (by omega)
      have z2 : wr.cell? ⟨B, 2, none⟩ = _ := HM.out.ol 1 (by omega)
      have z3 : wr.cell? ⟨B, 3, none⟩ = _ := HM.out.ol 2 (by omega)
      have z4 : wr.cell? ⟨B, 4, none⟩ = _ := HM.out.ol 3 (by omega)
      have z5 : wr.cell? ⟨B, 5, none⟩ = _ := HM.out.os 0 (by omega)
      have z6 : wr.cell? ⟨B, 6, none⟩ = _ := HM.out.os 1 (by omega)
      have z7 : wr.cell? ⟨B, 7, none⟩ = _ := HM.out.os 2 (by omega)
      have z8 : wr.cell? ⟨B, 8, none⟩ = _ := HM.out.os 3 (by omega)
      have z9 := HM.out.o9
      have rr := HM.out.r
      have rr0 := rr 0 (by omega)
      have rr1 := rr 1 (by omega)
      have rr2 := rr 2 (by omega)
      have rr3 := rr 3 (by omega)
      have rr4 := rr 4 (by omega)
      have rr5 := rr 5 (by omega)
      have rr6 := rr 6 (by omega)
      have rr7 := rr 7 (by omega)
      have rr8 := rr 8 (by omega)
      have rr9 := rr 9 (by omega)
      have rf := fun o => HM.out.ex.unfrozen (b := w.heap.size + 1) (by omega) o
      have HE := hide HM.out.ex
      have HRR := hide rr
      clear rr
      generalize hT0 : M.getD 0 0 = t0 at z1
      have HT0 := hide hT0
      clear hT0
      generalize hT1 : M.getD 1 0 = t1 at z2
      have HT1 := hide hT1
      clear hT1
      generalize hT2 : M.getD 2 0 = t2 at z3
      have HT2 := hide hT2
      clear hT2
      generalize hT3 : M.getD 3 0 = t3 at z4
      have HT3 := hide hT3
      clear hT3
      generalize hU0 : S.getD 0 0 = u0 at z5
      have HU0 := hide hU0
      clear hU0
      generalize hU1 : S.getD 1 0 = u1 at z6
      have HU1 := hide hU1
      clear hU1
      generalize hU2 : S.getD 2 0 = u2 at z7
      have HU2 := hide hU2
      clear hU2
      generalize hU3 : S.getD 3 0 = u3 at z8
      have HU3 := hide hU3
      clear hU3
      go_wp2
      obtain ⟨q0, q1, q2, q3, q4, q5, q6, q7, q8, q9⟩ := chain10 HRR.out (.int .i64 (M.length : Int)) (.int .i64 t0) (.int .i64 t1) (.int .i64 t2) (.int .i64 t3) (.int .i64 u0) (.int .i64 u1) (.int .i64 u2) (.int .i64 u3) (.int .i64 off)
      exact bodyPost_ret (v := .agg #[.int .i64 (M.length : Int), .int .i64 t0, .int .i64 t1, .int .i64 t2, .int .i64 t3, .int .i64 u0, .int .i64 u1, .int .i64 u2, .int .i64 u3, .int .i64 off]) (by simp [results, Try.results83, go_sem, q0, q1, q2, q3, q4, q5, q6, q7, q8, q9]) rfl ⟨by unfold vw; rw [HM1.out, HS1.out, HT0.out, HT1.out, HT2.out, HT3.out, HU0.out, HU1.out, HU2.out, HU3.out], by repeat (first | with_reducible exact HE.out | with_reducible refine Ext.setCell ?_ (by show w.heap.size ≤ w.heap.size + 1; omega) _)⟩
end Go.Proofs.Ytiekkninnjffpaa
