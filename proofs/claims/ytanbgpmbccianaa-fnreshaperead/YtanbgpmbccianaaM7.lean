import Derived.Test.YtanbgpmbccianaaM6
import Derived.Test.YtanbgpmbccianaaLwE
import Derived.Test.YtanbgpmbccianaaM4
namespace Go.Proofs.Ytanbgpmbccianaa
open Go.ChangeShapes Go.RowKit
set_option linter.unusedSimpArgs false
set_option linter.unusedVariables false

theorem vint2 {a b : Int} (h : Value.int .i64 a = Value.int .i64 b) : a = b := by injection h
def slF (xs : List Int) (a : Nat) (start step : Int) : Int := rightL start (xs.getD a 0) step
def slC (xs : List Int) (a : Nat) (start stop step : Int) : Int := cntS (slF xs a start step) (rightL stop (xs.getD a 0) step) step
def slL (xs ss : List Int) (off axis start stop step : Int) : Int × List Int × List Int × Int :=
  if ValidV xs ss off then
    (if 0 ≤ axis ∧ axis < xs.length then
      (if step ≠ 0 ∧ okStep start = true ∧ okStep stop = true ∧ okStep step = true then
        (0, xs.set axis.toNat (slC xs axis.toNat start stop step), slS xs ss axis.toNat (slC xs axis.toNat start stop step) step, slO xs ss axis.toNat (slC xs axis.toNat start stop step) (slF xs axis.toNat start step) off)
      else (8, [], [], 0))
    else (5, [], [], 0))
  else (12, [], [], 0)

end Go.Proofs.Ytanbgpmbccianaa
namespace Go.Proofs.Ytanbgpmbccianaa
open Go.ChangeShapes Go.RowKit
set_option linter.unusedSimpArgs false
set_option linter.unusedVariables false

/-- The first k numbers are axes of n, no two the same. -/
abbrev PN (ps : List Int) (n k : Nat) : Prop := (∀ j, j < k → 0 ≤ ps.getD j 0 ∧ ps.getD j 0 < n) ∧ (∀ j, j < k → ∀ i, i < j → ps.getD i 0 ≠ ps.getD j 0)
abbrev PermOk (ps : List Int) (n : Nat) : Prop := ps.length = n ∧ PN ps n ps.length
def dcPermOk (ps : List Int) (n : Nat) : Bool := decide (PermOk ps n)
theorem dcPermOk_t {ps : List Int} {n : Nat} (h : PermOk ps n) : dcPermOk ps n = true := decide_eq_true h
theorem dcPermOk_f {ps : List Int} {n : Nat} (h : ¬ PermOk ps n) : dcPermOk ps n = false := decide_eq_false h
theorem PN.zero (ps : List Int) (n : Nat) : PN ps n 0 := ⟨fun j hj => absurd hj (Nat.not_lt_zero _), fun j h2 => absurd h2 (Nat.not_lt_zero _)⟩
theorem PN.step {ps : List Int} {n k : Nat} (h : PN ps n k) (h1 : 0 ≤ ps.getD k 0 ∧ ps.getD k 0 < n) (h2 : ∀ i, i < k → ps.getD i 0 ≠ ps.getD k 0) : PN ps n (k + 1) :=
  ⟨fun j hj => by
    by_cases e : j = k
    · subst e; exact h1
    · exact h.1 j (by omega), fun j hj i hij => by
    by_cases e : j = k
    · subst e; exact h2 i hij
    · exact h.2 j (by omega) i hij⟩

def seenB (ps : List Int) (k a : Nat) : Bool := (List.range k).any fun j => ps.getD j 0 == (a : Int)
theorem seenB_iff {ps : List Int} {k a : Nat} : seenB ps k a = true ↔ ∃ j, j < k ∧ ps.getD j 0 = (a : Int) := by
  unfold seenB
  simp [List.any_eq_true]
theorem seenB_succ (ps : List Int) (k a : Nat) : seenB ps (k + 1) a = (seenB ps k a || ps.getD k 0 == (a : Int)) := by
  unfold seenB
  rw [List.range_succ, List.any_append]
  simp

/-- The world of the loop: the marks at B. -/
structure NS (w wr : World) (B : Nat) (ps : List Int) (k : Nat) : Prop where
  c : ∀ a, a < 4 → wr.cell? ⟨B, a, none⟩ = some (.bool (seenB ps k a))
  ex : Ext w wr
theorem NS.step {w wr : World} {B : Nat} {ps : List Int} {k a : Nat} (h : NS w wr B ps k) (ha : a < 4) (hx : ps.getD k 0 = (a : Int)) (hB : w.heap.size ≤ B) : NS w (wr.setCell ⟨B, a, none⟩ (.bool true)) B ps (k + 1) := by
  refine ⟨fun b hb => ?_, h.ex.setCell hB _⟩
  rw [seenB_succ, hx]
  by_cases e : a = b
  · subst e
    rw [show ((a : Int) == (a : Int)) = true from by simp, Bool.or_true]
    exact World.cell?_setCell_same _ _ _ (h.c a ha)
  · rw [show ((a : Int) == (b : Int)) = false from by simp; omega, Bool.or_false]
    exact near e (h.c b hb)

def NRel (w : World) (B : Nat) (ps : List Int) (n : Nat) (i : Value) (wr : World) : Prop := ∃ k : Nat, i = .int .i64 k ∧ k ≤ ps.length ∧ Hid (PN ps n k) ∧ NS w wr B ps k

end Go.Proofs.Ytanbgpmbccianaa
namespace Go.Proofs.Ytanbgpmbccianaa
open Go.ChangeShapes Go.RowKit
set_option linter.unusedSimpArgs false
set_option linter.unusedVariables false

def trx (xs ps : List Int) : List Int := ps.map fun p => xs.getD p.toNat 0
theorem trx_len (xs ps : List Int) : (trx xs ps).length = ps.length := by simp [trx]
theorem trx_getD (xs ps : List Int) (j : Nat) : (trx xs ps).getD j 0 = if j < ps.length then xs.getD (ps.getD j 0).toNat 0 else 0 := by
  unfold trx
  by_cases h : j < ps.length
  · rw [if_pos h]; simp [List.getD_eq_getElem?_getD, h]
  · rw [if_neg h]; simp [List.getD_eq_getElem?_getD, h]
def trL (xs ss : List Int) (off : Int) (ps : List Int) : Int × List Int × List Int × Int :=
  if ValidV xs ss off then (if PermOk ps xs.length then (0, trx xs ps, trx ss ps, off) else (5, [], [], 0)) else (12, [], [], 0)
theorem vint {a b : Int} (h : Value.int .i64 a = Value.int .i64 b) : a = b := by injection h

/-- The world of the loop: the answer at w.heap.size + 1, f at F, out at B. -/
structure TW (w wr : World) (F B : Nat) (xs ss ps : List Int) (off : Int) (k : Nat) : Prop where
  r0 : wr.cell? ⟨w.heap.size + 1, 0, none⟩ = some (.int .i64 0)
  r1 : wr.cell? ⟨w.heap.size + 1, 1, none⟩ = some (.slice none 0 0)
  r2 : wr.cell? ⟨w.heap.size + 1, 2, none⟩ = some (.slice none 0 0)
  r3 : wr.cell? ⟨w.heap.size + 1, 3, none⟩ = some (.int .i64 0)
  fl : ∀ j, j < 4 → wr.cell? ⟨F, 1 + j, none⟩ = some (.int .i64 (xs.getD j 0))
  fs : ∀ j, j < 4 → wr.cell? ⟨F, 5 + j, none⟩ = some (.int .i64 (ss.getD j 0))
  o0 : wr.cell? ⟨B, 0, none⟩ = some (.int .i64 xs.length)
  ol : ∀ j, j < 4 → wr.cell? ⟨B, 1 + j, none⟩ = some (.int .i64 (if j < k then (trx xs ps).getD j 0 else xs.getD j 0))
  os : ∀ j, j < 4 → wr.cell? ⟨B, 5 + j, none⟩ = some (.int .i64 (if j < k then (trx ss ps).getD j 0 else ss.getD j 0))
  o9 : wr.cell? ⟨B, 9, none⟩ = some (.int .i64 off)
  ex : Ext w wr
  hF : w.heap.size + 1 < F
  hB : F < B
  sz : B < wr.heap.size
theorem TW.drew {w wr : World} {F B : Nat} {xs ss ps : List Int} {off : Int} {k : Nat} (h : TW w wr F B xs ss ps off k) : TW w wr.drew F B xs ss ps off k :=
  ⟨h.r0, h.r1, h.r2, h.r3, h.fl, h.fs, h.o0, h.ol, h.os, h.o9, h.ex.drew, h.hF, h.hB, h.sz⟩
theorem TW.step {w wr : World} {F B : Nat} {xs ss ps : List Int} {off : Int} {k : Nat} (h : TW w wr F B xs ss ps off k) (hk : k < 4) {x y : Int} (hx : x = (trx xs ps).getD k 0) (hy : y = (trx ss ps).getD k 0) :
    TW w ((wr.setCell ⟨B, 1 + k, none⟩ (.int .i64 x)).setCell ⟨B, 5 + k, none⟩ (.int .i64 y)) F B xs ss ps off (k + 1) := by
  have m : Mut B wr ((wr.setCell ⟨B, 1 + k, none⟩ (.int .i64 x)).setCell ⟨B, 5 + k, none⟩ (.int .i64 y)) := ((Mut.refl _ _).setCell _ _).setCell _ _
  have h1 := h.hF
  have h2 := h.hB
  refine ⟨m.box (by omega) h.r0, m.box (by omega) h.r1, m.box (by omega) h.r2, m.box (by omega) h.r3, fun j hj => m.box (by omega) (h.fl j hj), fun j hj => m.box (by omega) (h.fs j hj), near (by omega) (near (by omega) h.o0), fun j hj => ?_, fun j hj => ?_, near (by omega) (near (by omega) h.o9), (h.ex.setCell (by show w.heap.size ≤ B; omega) _).setCell (by show w.heap.size ≤ B; omega) _, h1, h2, Nat.lt_of_lt_of_le h.sz m.size⟩
  · refine near (by omega) ?_
    by_cases e : k = j
    · subst e
      rw [if_pos (by omega), ← hx]
      exact World.cell?_setCell_same _ _ _ (h.ol k hj)
    · refine near (by omega) ((h.ol j hj).trans ?_)
      by_cases q : j < k
      · rw [if_pos q, if_pos (by omega)]
      · rw [if_neg q, if_neg (by omega)]
  · by_cases e : k = j
    · subst e
      rw [if_pos (by omega), ← hy]
      exact World.cell?_setCell_same _ _ _ (near (by omega) (h.os k hj))
    · refine near (by omega) (near (by omega) ((h.os j hj).trans ?_))
      by_cases q : j < k
      · rw [if_pos q, if_pos (by omega)]
      · rw [if_neg q, if_neg (by omega)]
def TRel (w : World) (F B : Nat) (xs ss ps : List Int) (off : Int) (i : Value) (wr : World) : Prop := ∃ k : Nat, i = .int .i64 k ∧ k ≤ ps.length ∧ TW w wr F B xs ss ps off k

end Go.Proofs.Ytanbgpmbccianaa
namespace Go.Proofs.Ytanbgpmbccianaa
open Go.ChangeShapes Go.RowKit
set_option linter.unusedSimpArgs false
set_option linter.unusedVariables false

theorem dot_in : ∀ (xs ss js : List Int) (off : Int), ss.length = xs.length → js.length = xs.length → (∀ i, i < xs.length → 0 ≤ js.getD i 0 ∧ js.getD i 0 ≤ xs.getD i 0 - 1) → least xs ss off ≤ off + dotL ss js ∧ off + dotL ss js ≤ most xs ss off
  | [], ss, js, off, h1, h2, _ => by
    cases ss <;> cases js <;> simp_all [least, most, dotL]
  | n :: ns, [], js, off, h1, _, _ => by simp at h1
  | n :: ns, s :: ss, [], off, _, h2, _ => by simp at h2
  | n :: ns, s :: ss, j :: js, off, h1, h2, h => by
    have h0 := h 0 (by simp)
    simp only [List.getD_cons_zero] at h0
    have ih := dot_in ns ss js off (by simpa using h1) (by simpa using h2) (fun i hi => by simpa using h (i + 1) (by simpa using hi))
    have hb := mul_between j n s h0.1 h0.2
    simp only [least, most, dotL]
    rw [least_shift, most_shift]
    omega
theorem idxL_in {xs : List Int} (hp : ∀ n ∈ xs, 1 ≤ n) (k a : Nat) (h : a < xs.length) : 0 ≤ (idxL xs k).getD a 0 ∧ (idxL xs k).getD a 0 ≤ xs.getD a 0 - 1 := by
  rw [idxL_getD xs k a h]
  have h1 : 1 ≤ xs.getD a 0 := hp _ (by rw [List.getD_eq_getElem?_getD, List.getElem?_eq_getElem h]; exact List.getElem_mem h)
  have h2 := Nat.mod_lt (k / plen (xs.drop (a + 1))) (show 0 < (xs.getD a 0).toNat by omega)
  omega
theorem prod_ne {xs : List Int} (h : ∀ n ∈ xs, 1 ≤ n) : prod xs ≠ 0 := by
  rw [prod_plen (fun n hn => by have := h n hn; omega)]
  have := plen_pos xs h
  omega

/-- A view all of whose elements are elements of a valid view. -/
theorem valid_of {xs ss : List Int} {off : Int} (hv : ValidV xs ss off) {L S : List Int} {o : Int} (hg : Good L) (hl : S.length = L.length) (ho : 0 ≤ o ∧ o ≤ 4096) (hs : InS S S.length) (f : Nat → List Int)
    (hx : prod L ≠ 0 → prod xs ≠ 0)
    (hf : prod L ≠ 0 → ∀ k, k < plen L → (f k).length = xs.length ∧ (∀ i, i < xs.length → 0 ≤ (f k).getD i 0 ∧ (f k).getD i 0 ≤ xs.getD i 0 - 1) ∧ o + dotL S (idxL L k) = off + dotL ss (f k)) :
    ValidV L S o ∧ ∀ k, k < (offsL L S o).length → (offsL L S o).getD k 0 = off + dotL ss (f k) := by
  by_cases h0 : prod L = 0
  · refine ⟨⟨hg, hl, ho, hs, Or.inl h0⟩, fun k hk => ?_⟩
    unfold offsL at hk
    rw [if_pos h0] at hk
    simp at hk
  · have hp : ∀ n ∈ L, 1 ≤ n := fun n hn => (good_pos hg h0 n hn).1
    have hat : ∀ k, k < plen L → (places L S o)[k]? = some (off + dotL ss (f k)) := fun k hk => by
      rw [places_at L S o k hl.symm hp hk, (hf h0 k hk).2.2]
    have hlen := places_len L S o hl.symm
    refine ⟨⟨hg, hl, ho, hs, Or.inr ((all_in L S o hl.symm hp).1 fun p hm => ?_)⟩, fun k hk => ?_⟩
    · obtain ⟨k, hk, e⟩ := List.getElem_of_mem hm
      have h1 := hat k (by omega)
      rw [List.getElem?_eq_getElem hk, e] at h1
      obtain ⟨g1, g2, _⟩ := hf h0 k (by omega)
      have hd := dot_in xs ss (f k) off hv.2.1 g1 g2
      rcases hv.2.2.2.2 with q | q
      · exact absurd q (hx h0)
      · injection h1 with h1
        omega
    · unfold offsL at hk ⊢
      rw [if_neg h0] at hk ⊢
      rw [List.getD_eq_getElem?_getD, hat k (by omega)]
      rfl

/-- Broadcast. -/
theorem str_dot {xs ss ys : List Int} (hl : ss.length = xs.length) (hs : Strs xs ys) (is : List Int) (hi : is.length = ys.length) (h1 : ∀ a, a < ys.length → ys.getD a 0 = 1 → is.getD a 0 = 0) :
    dotL (bstr xs ss ys) is = dotL ss (isB xs is (ys.length - xs.length)) := by
  obtain ⟨hle, hj⟩ := hs
  have e : bstr xs ss ys = List.replicate (ys.length - xs.length) 0 ++ (List.range xs.length).map fun i => strAt xs ss ys (ys.length - xs.length + i) := by
    apply List.ext_getElem
    · simp [bstr]; omega
    · intro j g1 g2
      rw [List.getElem_append]
      simp only [bstr, List.getElem_map, List.getElem_range, List.length_replicate, List.getElem_replicate]
      split
      · next q => unfold strAt; rw [if_pos q]
      · next q => congr 1; omega
  rw [e, dot_zeros]
  refine dot_congr _ _ _ _ (by simp [hl]) (by rw [isB_len]; simp; omega) fun k hk => ?_
  have hk' : k < xs.length := by simpa using hk
  rw [isB_getD _ _ _ _ hk']
  have ed : (is.drop (ys.length - xs.length)).getD k 0 = is.getD (ys.length - xs.length + k) 0 := by simp [List.getD_eq_getElem?_getD]
  have es : ((List.range xs.length).map fun i => strAt xs ss ys (ys.length - xs.length + i)).getD k 0 = if xs.getD k 0 = ys.getD (ys.length - xs.length + k) 0 then ss.getD k 0 else 0 := by
    rw [List.getD_eq_getElem?_getD, List.getElem?_map, List.getElem?_range hk']
    show strAt xs ss ys _ = _
    unfold strAt
    rw [if_neg (by omega), Nat.add_sub_cancel_left]
  rw [ed, es]
  by_cases q : xs.getD k 0 = 1
  · rw [if_pos q]
    by_cases r : xs.getD k 0 = ys.getD (ys.length - xs.length + k) 0
    · rw [if_pos r, h1 _ (by omega) (by omega)]
    · rw [if_neg r]; simp
  · rw [if_neg q, if_pos (by rcases hj k hk' with r | r; exact r; exact absurd r q)]
theorem hplB {xs ss ys : List Int} {off : Int} (hv : ValidV xs ss off) (hg : Good ys) (hs : Strs xs ys) :
    ValidV ys (bstr xs ss ys) off ∧ ∀ k, k < (offsL ys (bstr xs ss ys) off).length → (offsL ys (bstr xs ss ys) off).getD k 0 = off + dotL ss (isB xs (idxL ys k) (ys.length - xs.length)) := by
  refine valid_of hv hg (bstr_len _ _ _) hv.2.2.1 (fun j hj => ?_) (fun k => isB xs (idxL ys k) (ys.length - xs.length)) (fun h0 => ?_) (fun h0 k hk => ?_)
  · rw [bstr_getD]
    have hss := hv.2.2.2.1
    split
    · unfold strAt
      split
      · omega
      · split
        · by_cases q : j - (ys.length - xs.length) < ss.length
          · exact hss _ q
          · rw [List.getD_eq_getElem?_getD, List.getElem?_eq_none (by omega)]; simp
        · omega
    · omega
  · refine prod_ne fun n hn => ?_
    obtain ⟨j, hj, rfl⟩ := getD_mem hn
    rcases hs.2 j hj with q | q
    · rw [q]
      have hle := hs.1
      exact (good_pos hg h0 _ (by rw [List.getD_eq_getElem?_getD, List.getElem?_eq_getElem (by omega)]; exact List.getElem_mem _)).1
    · omega
  · have hp : ∀ n ∈ ys, 1 ≤ n := fun n hn => (good_pos hg h0 n hn).1
    refine ⟨isB_len _ _ _, fun i hi => ?_, ?_⟩
    · show 0 ≤ (isB xs (idxL ys k) (ys.length - xs.length)).getD i 0 ∧ _
      rw [isB_getD _ _ _ _ hi]
      split
      · omega
      · next q =>
        have hle := hs.1
        have := idxL_in hp k (ys.length - xs.length + i) (by omega)
        rcases hs.2 i hi with r | r
        · omega
        · exact absurd r q
    · rw [str_dot hv.2.1 hs _ (idxL_len _ _) fun a ha h1 => idxL_one ys k a ha h1]

/-- Transpose. -/
theorem pick_at : ∀ (ps is : List Int) (j : Nat) (i acc : Int), j < ps.length → j < is.length → ps.Nodup → ps.getD j 0 = i → pick ps is i acc = is.getD j 0
  | [], _, j, _, _, h, _, _, _ => by simp at h
  | _ :: _, [], j, _, _, _, h, _, _ => by simp at h
  | p :: ps, x :: xs, 0, i, acc, _, _, hn, he => by
    simp only [List.getD_cons_zero] at he ⊢
    subst he
    rw [pick, if_pos rfl]
    exact pick_not ps xs p x (List.nodup_cons.1 hn).1
  | p :: ps, x :: xs, j + 1, i, acc, h1, h2, hn, he => by
    simp only [List.getD_cons_succ] at he ⊢
    rw [pick]
    exact pick_at ps xs j i _ (by simpa using h1) (by simpa using h2) (List.nodup_cons.1 hn).2 he
theorem perm_nodup {ps : List Int} {n : Nat} (h : PermOk ps n) : ps.Nodup := by
  rw [List.nodup_iff_pairwise_ne, List.pairwise_iff_getElem]
  intro i j hi hj hij
  have := h.2.2 j hj i hij
  rw [List.getD_eq_getElem?_getD, List.getD_eq_getElem?_getD, List.getElem?_eq_getElem hi, List.getElem?_eq_getElem hj] at this
  exact this
theorem perm_in {ps : List Int} {n : Nat} (h : PermOk ps n) : ∀ p ∈ ps, 0 ≤ p ∧ p < (n : Int) := fun p hp => by
  obtain ⟨j, hj, rfl⟩ := getD_mem hp
  exact h.2.1 j hj
theorem perm_onto {ps : List Int} {n : Nat} (h : PermOk ps n) (i : Nat) (hi : i < n) : ∃ j, j < ps.length ∧ ps.getD j 0 = (i : Int) := by
  by_cases q : (i : Int) ∈ ps
  · exact getD_mem q
  · exfalso
    have h1 : ((i : Int) :: ps).Nodup := List.nodup_cons.2 ⟨q, perm_nodup h⟩
    have h2 : ((i : Int) :: ps) ⊆ (List.range n).map fun (k : Nat) => (k : Int) := fun x hx => by
      rw [List.mem_map]
      rcases List.mem_cons.1 hx with rfl | hx
      · exact ⟨i, List.mem_range.2 hi, rfl⟩
      · have := perm_in h x hx
        exact ⟨x.toNat, List.mem_range.2 (by omega), by omega⟩
    have := h1.length_le_of_subset h2
    simp at this
    have := h.1
    omega
theorem perm_prod {xs ps : List Int} (h : PermOk ps xs.length) : prod (trx xs ps) = prod xs := by
  have hp : ps.Perm ((List.range xs.length).map fun (k : Nat) => (k : Int)) := by
    refine (List.perm_ext_iff_of_nodup (perm_nodup h) ?_).2 fun a => ?_
    · rw [List.nodup_iff_pairwise_ne, List.pairwise_iff_getElem]
      intro i j hi hj hij
      simp
      omega
    · constructor
      · intro ha
        have := perm_in h a ha
        exact List.mem_map.2 ⟨a.toNat, List.mem_range.2 (by omega), by omega⟩
      · intro ha
        obtain ⟨k, hk, rfl⟩ := List.mem_map.1 ha
        obtain ⟨j, hj, e⟩ := perm_onto h k (List.mem_range.1 hk)
        rw [← e, List.getD_eq_getElem?_getD, List.getElem?_eq_getElem hj]
        exact List.getElem_mem hj
  have hq : (trx xs ps).Perm xs := by
    have := hp.map fun p => xs.getD p.toNat 0
    have e : (((List.range xs.length).map fun (k : Nat) => (k : Int)).map fun p => xs.getD p.toNat 0) = xs := by
      apply List.ext_getElem
      · simp
      · intro j g1 g2
        simp [List.getD_eq_getElem?_getD, g2]
    rw [e] at this
    exact this
  unfold prod
  exact hq.foldl_eq' (fun x _ y _ z => by rw [Int.mul_assoc, Int.mul_comm x y, ← Int.mul_assoc]) 1
theorem trx_in {xs ps : List Int} (h : PermOk ps xs.length) (j : Nat) (hj : j < (trx xs ps).length) : ∃ i, i < xs.length ∧ (trx xs ps).getD j 0 = xs.getD i 0 := by
  rw [trx_len] at hj
  have := h.2.1 j hj
  exact ⟨(ps.getD j 0).toNat, by omega, by rw [trx_getD, if_pos hj]⟩
theorem hplT {xs ss ps : List Int} {off : Int} (hv : ValidV xs ss off) (h : PermOk ps xs.length) :
    ValidV (trx xs ps) (trx ss ps) off ∧ ∀ k, k < (offsL (trx xs ps) (trx ss ps) off).length → (offsL (trx xs ps) (trx ss ps) off).getD k 0 = off + dotL ss ((List.range xs.length).map fun (i : Nat) => pick ps (idxL (trx xs ps) k) (i : Int) 0) := by
  have hl := hv.2.1
  have hg : Good (trx xs ps) := ⟨by rw [trx_len, h.1]; exact hv.1.1, fun j hj => by
    obtain ⟨i, hi, e⟩ := trx_in h j hj
    rw [e]; exact hv.1.2.1 i hi, by rw [perm_prod h]; exact hv.1.2.2⟩
  refine valid_of hv hg (by rw [trx_len, trx_len]) hv.2.2.1 (fun j hj => ?_) (fun k => (List.range xs.length).map fun (i : Nat) => pick ps (idxL (trx xs ps) k) (i : Int) 0) (fun h0 => by rw [perm_prod h] at h0; exact h0) (fun h0 k hk => ⟨by simp, fun i hi => ?_, ?_⟩)
  · obtain ⟨i, hi, e⟩ := trx_in (xs := ss) (by rw [hl]; exact h) j hj
    rw [e]; exact hv.2.2.2.1 i hi
  · have hp : ∀ n ∈ trx xs ps, 1 ≤ n := fun n hn => (good_pos hg h0 n hn).1
    obtain ⟨j, hj, e⟩ := perm_onto h i hi
    have hi2 : j < (idxL (trx xs ps) k).length := by rw [idxL_len, trx_len]; exact hj
    have e1 : ((List.range xs.length).map fun (i : Nat) => pick ps (idxL (trx xs ps) k) (i : Int) 0).getD i 0 = pick ps (idxL (trx xs ps) k) (i : Int) 0 := by
      rw [List.getD_eq_getElem?_getD, List.getElem?_map, List.getElem?_range hi]; rfl
    show 0 ≤ ((List.range xs.length).map fun (i : Nat) => pick ps (idxL (trx xs ps) k) (i : Int) 0).getD i 0 ∧ _
    rw [e1, pick_at ps _ j (i : Int) 0 hj hi2 (perm_nodup h) e]
    have h2 := idxL_in hp k j (by rw [trx_len]; exact hj)
    rw [trx_getD, if_pos hj, e] at h2
    have e3 : ((i : Int)).toNat = i := by omega
    rw [e3] at h2
    exact h2
  · have := perm_dot ss ps (idxL (trx xs ps) k) (by rw [idxL_len, trx_len]) (perm_nodup h) (by rw [hl]; exact perm_in h)
    rw [hl] at this
    show off + dotL (trx ss ps) (idxL (trx xs ps) k) = _
    rw [← this]
    rfl

/-- Slice. -/
theorem plen_set_le : ∀ (xs : List Int) (a : Nat) (c : Int), c.toNat ≤ (xs.getD a 0).toNat → plen (xs.set a c) ≤ plen xs
  | [], a, c, _ => by simp
  | n :: ns, 0, c, h => by
    simp only [List.getD_cons_zero] at h
    simp only [List.set_cons_zero, plen]
    exact Nat.mul_le_mul_right _ h
  | n :: ns, a + 1, c, h => by
    simp only [List.getD_cons_succ] at h
    simp only [List.set_cons_succ, plen]
    exact Nat.mul_le_mul_left _ (plen_set_le ns a c h)
theorem sl_in {n start stop step F C : Int} (hn : 0 ≤ n ∧ n ≤ 4096) (hs : step ≠ 0) (h1 : -1000000 ≤ start ∧ start ≤ 1000000) (h2 : -1000000 ≤ stop ∧ stop ≤ 1000000) (hF : rightL start n step = F) (hC : cntS F (rightL stop n step) step = C) (i : Nat) (hi : (i : Int) < C) :
    0 ≤ F + i * step ∧ F + i * step ≤ n - 1 := by
  have b1 := rightL_bd hn hs h1
  have b2 := rightL_bd hn hs h2
  rw [hF] at b1
  have hm := (cntS_lt F (rightL stop n step) step hs i).2 (by rw [hC]; exact hi)
  unfold sLo sHi at *
  rcases hm with ⟨q, r⟩ | ⟨q, r⟩
  · rw [if_neg (by omega)] at b1 b2
    rw [if_neg (by omega)] at b1 b2
    have : 0 ≤ (i : Int) * step := Int.mul_nonneg (by omega) (by omega)
    omega
  · rw [if_pos q] at b1 b2
    rw [if_pos q] at b1 b2
    have : (i : Int) * step ≤ 0 := Int.mul_nonpos_of_nonneg_of_nonpos (by omega) (by omega)
    omega
theorem okS {x : Int} (h : okStep x = true) : -1000000 ≤ x ∧ x ≤ 1000000 := of_decide_eq_true h
theorem hplS {xs ss : List Int} {off : Int} (hv : ValidV xs ss off) {a : Nat} (ha : a < xs.length) {start stop step F C : Int} (hs : step ≠ 0) (h1 : okStep start = true) (h2 : okStep stop = true) (hF : rightL start (xs.getD a 0) step = F) (hC : cntS F (rightL stop (xs.getD a 0) step) step = C) :
    ValidV (xs.set a C) (slS xs ss a C step) (slO xs ss a C F off) ∧ ∀ k, k < (offsL (xs.set a C) (slS xs ss a C step) (slO xs ss a C F off)).length → (offsL (xs.set a C) (slS xs ss a C step) (slO xs ss a C F off)).getD k 0 = off + dotL ss ((idxL (xs.set a C) k).set a ((idxL (xs.set a C) k).getD a 0 * step)) + (slO xs ss a C F off - off) := by
  have hl := hv.2.1
  have hn := hv.1.2.1 a ha
  have b1 := rightL_bd hn hs (okS h1)
  have b2 := rightL_bd hn hs (okS h2)
  rw [hF] at b1
  have hcb : 0 ≤ C ∧ C ≤ xs.getD a 0 := by rw [← hC]; exact cntS_bd F _ step _ hs b1 b2 hn.1
  have hin := sl_in hn hs (okS h1) (okS h2) hF hC
  have hsg := set_getD xs a C ha
  have hr : InR (xs.set a C) (xs.set a C).length := fun j hj => by
    rw [hsg j]
    split
    · omega
    · exact hv.1.2.1 j (by simpa using hj)
  have hg : Good (xs.set a C) := ⟨by simpa using hv.1.1, hr, by
    rw [prod_plen (fun m hm => by obtain ⟨j, hj, rfl⟩ := getD_mem hm; exact (hr j hj).1)]
    have h3 := plen_set_le xs a C (by omega)
    have h4 := hv.1.2.2
    rw [prod_plen (fun m hm => (good_nonneg hv.1 m hm).1)] at h4
    omega⟩
  by_cases h0 : prod (xs.set a C) = 0
  · have eS : slS xs ss a C step = ss := if_pos h0
    have eO : slO xs ss a C F off = off := if_pos h0
    rw [eS, eO]
    refine ⟨⟨hg, by simpa using hl, hv.2.2.1, hv.2.2.2.1, Or.inl h0⟩, fun k hk => ?_⟩
    unfold offsL at hk
    rw [if_pos h0] at hk
    simp at hk
  · have hpL : ∀ n ∈ xs.set a C, 1 ≤ n := fun n hn => (good_pos hg h0 n hn).1
    have hpos : ∀ j, j < xs.length → 1 ≤ (xs.set a C).getD j 0 := fun j hj => hpL _ (by rw [List.getD_eq_getElem?_getD, List.getElem?_eq_getElem (by simpa using hj)]; exact List.getElem_mem _)
    have hC1 : 1 ≤ C := by have := hpos a ha; rw [hsg a, if_pos rfl] at this; exact this
    have hpx : ∀ n ∈ xs, 1 ≤ n := fun n hn => by
      obtain ⟨j, hj, rfl⟩ := getD_mem hn
      have := hpos j hj
      rw [hsg j] at this
      split at this
      · next q => subst q; omega
      · exact this
    have hx := prod_ne hpx
    have eO : slO xs ss a C F off = off + F * ss.getD a 0 := if_neg h0
    have hvr : 0 ≤ least xs ss off ∧ most xs ss off < 4096 := by
      rcases hv.2.2.2.2 with q | q
      · exact absurd q hx
      · exact q
    have hone : ∀ X : Int, 0 ≤ X → X ≤ xs.getD a 0 - 1 → 0 ≤ off + X * ss.getD a 0 ∧ off + X * ss.getD a 0 < 4096 := fun X x0 x1 => by
      have hd := dot_in xs ss ((List.replicate xs.length 0).set a X) off hl (by simp) fun i hi => by
        rw [set_getD _ a X (by simpa using ha) i]
        have : (1 : Int) ≤ xs.getD i 0 := hpx _ (by rw [List.getD_eq_getElem?_getD, List.getElem?_eq_getElem hi]; exact List.getElem_mem hi)
        split
        · next q => subst q; omega
        · have : (List.replicate xs.length (0 : Int)).getD i 0 = 0 := by simp [List.getD_eq_getElem?_getD, hi]
          omega
      rw [dot_put _ _ _ _ (by simpa using ha), dot_rep] at hd
      have : (List.replicate xs.length (0 : Int)).getD a 0 = 0 := by simp [List.getD_eq_getElem?_getD, ha]
      rw [this, Int.sub_zero] at hd
      omega
    have i0 := hin 0 (by omega)
    have e0 : F + ((0 : Nat) : Int) * step = F := by simp
    rw [e0] at i0
    have p0 := hone F i0.1 i0.2
    have hdS : ∀ is : List Int, a < is.length → (C < 2 → is.getD a 0 = 0) → dotL (slS xs ss a C step) is = dotL ss (is.set a (is.getD a 0 * step)) := fun is hi hz => by
      unfold slS
      rw [if_neg h0]
      by_cases q : 2 ≤ C
      · rw [if_pos q, dot_set]
      · rw [if_neg q, dot_put _ _ _ _ hi, hz (by omega)]
        simp
    have hidx : ∀ k, (C < 2 → (idxL (xs.set a C) k).getD a 0 = 0) := fun k hlt => idxL_one _ k a (by simpa using ha) (by rw [hsg a, if_pos rfl]; omega)
    have hli : ∀ k, (idxL (xs.set a C) k).length = xs.length := fun k => by rw [idxL_len]; simp
    have hm := valid_of hv (L := xs.set a C) (S := slS xs ss a C step) (o := slO xs ss a C F off) hg (by rw [slS_len]; simpa using hl) (by rw [eO]; omega) (fun j hj => ?_) (fun k => (idxL (xs.set a C) k).set a (F + (idxL (xs.set a C) k).getD a 0 * step)) (fun _ => hx) (fun _ k hk => ⟨by simp [hli k], fun i hi => ?_, ?_⟩)
    · refine ⟨hm.1, fun k hk => ?_⟩
      rw [hm.2 k hk, eO, dot_put _ _ _ _ (by rw [hli k]; exact ha), dot_put _ _ _ _ (by rw [hli k]; exact ha)]
      generalize (idxL (xs.set a C) k).getD a 0 = X
      rw [Int.sub_mul, Int.sub_mul, Int.add_mul]
      omega
    · rw [slS_len] at hj
      unfold slS
      rw [if_neg h0]
      split
      · next q =>
        rw [set_getD ss a _ (by omega) j]
        split
        · have i1 := hin 1 (by omega)
          have e1 : F + ((1 : Nat) : Int) * step = F + step := by simp
          rw [e1] at i1
          have p1 := hone (F + step) i1.1 i1.2
          rw [Int.add_mul, Int.mul_comm step] at p1
          omega
        · exact hv.2.2.2.1 j hj
      · exact hv.2.2.2.1 j hj
    · show 0 ≤ ((idxL (xs.set a C) k).set a (F + (idxL (xs.set a C) k).getD a 0 * step)).getD i 0 ∧ _
      rw [set_getD _ a _ (by rw [hli k]; exact ha) i]
      have hii := idxL_in hpL k i (by simpa using hi)
      rw [hsg i] at hii
      split
      · next q =>
        subst q
        rw [if_pos rfl] at hii
        obtain ⟨m, hm⟩ := Int.eq_ofNat_of_zero_le hii.1
        rw [hm]
        rw [hm] at hii
        exact hin m (by omega)
      · next q =>
        rw [if_neg q] at hii
        exact hii
    · show slO xs ss a C F off + dotL (slS xs ss a C step) (idxL (xs.set a C) k) = off + dotL ss ((idxL (xs.set a C) k).set a (F + (idxL (xs.set a C) k).getD a 0 * step))
      rw [hdS _ (by rw [hli k]; exact ha) (hidx k), eO, dot_put _ _ _ _ (by rw [hli k]; exact ha), dot_put _ _ _ _ (by rw [hli k]; exact ha)]
      generalize (idxL (xs.set a C) k).getD a 0 = X
      rw [Int.sub_mul, Int.sub_mul, Int.add_mul]
      omega
end Go.Proofs.Ytanbgpmbccianaa
