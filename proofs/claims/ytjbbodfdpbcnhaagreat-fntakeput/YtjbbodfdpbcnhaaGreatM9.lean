import Derived.Test.YtjbbodfdpbcnhaaGreatM8
import Derived.Test.YtjbbodfdpbcnhaaGreatM6
import Derived.Deep.DeepCutAuto
import Derived.RegionTactic
set_option linter.unusedSimpArgs false
set_option linter.unusedVariables false
set_option maxRecDepth 100000
set_option maxHeartbeats 8000000
namespace Go.Proofs.YtjbbodfdpbcnhaaGreat
open List renaming setIfInBounds_toArray → sT, set_cons_zero → sZ, set_cons_succ → sS
open Go.Value renaming int → O, slice → σ, pointer → π, agg → γ
open Go.IntKind renaming i64 → ι
open Go.Obj renaming cells → χ
open Go.Act renaming put → aP
section
open Go.ChangeShapes Go.RowKit FL
theorem zr11 {dt : Int} (h : isDtB dt = true) : castL dt dt 1 = true := by
 have h := of_decide_eq_true h
 rcases (show dt = 1 ∨ dt = 2 ∨ dt = 3 ∨ dt = 4 ∨ dt = 5 ∨ dt = 6 ∨ dt = 7 ∨ dt = 8 ∨ dt = 9 by omega) with rfl | rfl | rfl | rfl | rfl | rfl | rfl | rfl | rfl <;> decide
theorem zc13 (ss : List St) (t u : St) {i : Nat} (h : i < ss.length) : (ss ++ [t, u]).getD i s0 = ss.getD i s0 := by
 simp [List.getD_eq_getElem?_getD, List.getElem?_append_left h]
theorem zc6 (ss : List St) (t u : St) : (ss ++ [t, u]).getD ss.length s0 = t ∧ (ss ++ [t, u]).getD (ss.length + 1) s0 = u := by
 constructor <;> simp [List.getD_eq_getElem?_getD, List.getElem?_append_right]
theorem zz2 (ss : List St) : vHeap ss = true ↔ ss.length ≤ 64 ∧ ∀ i, i < ss.length → vStore (ss.getD i s0) = true := by
 unfold vHeap
 rw [Bool.and_eq_true, decide_eq_true_eq, List.all_eq_true]
 refine and_congr Iff.rfl ⟨fun h i hi => h _ ?_, fun h s hs => ?_⟩
 ·rw [List.getD_eq_getElem?_getD, List.getElem?_eq_getElem hi]; exact List.getElem_mem hi
 ·obtain ⟨i, hi, rfl⟩ := List.getElem_of_mem hs
  have := h i hi
  rw [List.getD_eq_getElem?_getD, List.getElem?_eq_getElem hi] at this
  exact this
theorem zk2 (s : St) : vStore s = true ↔ isDtB s.1 = true ∧ s.2.length ≤ 4096 ∧ ∀ j, j < s.2.length → validB s.1 (s.2.getD j k0).1 (s.2.getD j k0).2.1 (s.2.getD j k0).2.2 = true := by
 unfold vStore
 rw [Bool.and_eq_true, Bool.and_eq_true, decide_eq_true_eq, List.all_eq_true, and_assoc]
 refine and_congr Iff.rfl (and_congr Iff.rfl ⟨fun h j hj => h _ ?_, fun h c hc => ?_⟩)
 ·rw [List.getD_eq_getElem?_getD, List.getElem?_eq_getElem hj]; exact List.getElem_mem hj
 ·obtain ⟨j, hj, rfl⟩ := List.getElem_of_mem hc
  have := h j hj
  rw [List.getD_eq_getElem?_getD, List.getElem?_eq_getElem hj] at this
  exact this
theorem zf13 (ss : List St) : SG ss ↔ ∀ i, i < ss.length → ∀ j, j < (ss.getD i s0).2.length → I64 ((ss.getD i s0).2.getD j k0).1 ∧ B64 ((ss.getD i s0).2.getD j k0).2.1 ∧ B64 ((ss.getD i s0).2.getD j k0).2.2 := by
 refine ⟨fun h i hi j hj => (h.at i hi) _ ?_, fun h s hs c hc => ?_⟩
 ·rw [List.getD_eq_getElem?_getD (l := (ss.getD i s0).2), List.getElem?_eq_getElem hj]; exact List.getElem_mem hj
 ·obtain ⟨i, hi, rfl⟩ := List.getElem_of_mem hs
  obtain ⟨j, hj, rfl⟩ := List.getElem_of_mem hc
  have e : ss.getD i s0 = ss[i] := by rw [List.getD_eq_getElem?_getD, List.getElem?_eq_getElem hi]; rfl
  have := h i hi j (by rw [e]; exact hj)
  rw [e, List.getD_eq_getElem?_getD, List.getElem?_eq_getElem hj] at this
  exact this
theorem zp2 {m : Nat} (hm : 0 < m) : offsL [(m : Int)] [1] 0 = (List.range m).map fun (i : Nat) => (i : Int) := by
 unfold offsL
 rw [if_neg (by simp [prod]; omega)]
 simp only [places, Int.toNat_natCast, Int.mul_one, Int.zero_add]
 induction List.range m with
 | nil => rfl
 | cons x l ih => simp [ih]
theorem zd8 {m : Nat} (hm : m ≤ 4096) : ValidV [(m : Int)] [1] 0 := by
 refine ⟨⟨by simp, fun j hj => ?_, by simp [prod]; omega⟩, by simp, by omega, fun j hj => ?_, ?_⟩
 ·simp at hj; subst hj; simp; omega
 ·simp at hj; subst hj; simp
 ·by_cases h : m = 0
  ·exact Or.inl (by subst h; simp [prod])
  ·exact Or.inr (by simp [least, most]; omega)
theorem zd14 {dt : Int} (h : isDtB dt = true) : validB dt k0.1 k0.2.1 k0.2.2 = true := by
 have h := of_decide_eq_true h
 rcases (show dt = 1 ∨ dt = 2 ∨ dt = 3 ∨ dt = 4 ∨ dt = 5 ∨ dt = 6 ∨ dt = 7 ∨ dt = 8 ∨ dt = 9 by omega) with rfl | rfl | rfl | rfl | rfl | rfl | rfl | rfl | rfl <;> decide
structure TPu (ss : List St) (a : Ar) (X : List C3) (ix : List Int) : Prop where
 vh : vHeap ss = true
 sg : SG ss
 ga : a.Good ss
 nd : (offsL a.xs a.sv a.off).Nodup
 k2 : ss.length + 2 ≤ 64
 m0 : 0 < ix.length
 m4 : ix.length ≤ 4096
 xl : X.length = ix.length
 ok : ∀ j, j < ix.length → OkC (dtA ss a) (X.getD j k0)
 ir : ∀ j, j < ix.length → -(prod a.xs) ≤ ix.getD j 0 ∧ ix.getD j 0 < prod a.xs
 id : ∀ i j, i < ix.length → j < ix.length → frS (ix.getD i 0) (prod a.xs) = frS (ix.getD j 0) (prod a.xs) → i = j
def arB (ss : List St) (ix : List Int) : Ar := ⟨ss.length, [(ix.length : Int)], [1], 0⟩
def arO (ss : List St) (ix : List Int) : Ar := ⟨(ss.length + 1 : Nat), [(ix.length : Int)], [1], 0⟩
def ss2 (ss : List St) (a : Ar) (X : List C3) (ix : List Int) : List St := ss ++ [(dtA ss a, X), (dtA ss a, List.replicate ix.length k0)]
def ss3 (ss : List St) (a : Ar) (X : List C3) (ix : List Int) : List St := putT (ss2 ss a X ix) a.st.toNat (putL a ix) X ix.length
def ss4 (ss : List St) (a : Ar) (X : List C3) (ix : List Int) : List St := putT (ss3 ss a X ix) (arO ss ix).st.toNat (offsL [(ix.length : Int)] [1] 0) X (offsL [(ix.length : Int)] [1] 0).length
section
variable {ss : List St} {a : Ar} {X : List C3} {ix : List Int}
theorem TPu.st (h : TPu ss a X ix) : 0 ≤ a.st ∧ a.st.toNat < ss.length := by have := h.ga.1; omega
theorem TPu.dt (h : TPu ss a X ix) : isDtB (dtA ss a) = true := ((zk2 _).1 (((zz2 ss).1 h.vh).2 _ h.st.2)).1
theorem TPu.vs2 (h : TPu ss a X ix) : vHeap (ss2 ss a X ix) = true ∧ SG (ss2 ss a X ix) := by
 have hn := zc6 ss (dtA ss a, X) (dtA ss a, List.replicate ix.length k0)
 have hl : (ss2 ss a X ix).length = ss.length + 2 := by simp [ss2]
 constructor
 ·rw [zz2, hl]
  refine ⟨h.k2, fun i hi => ?_⟩
  unfold ss2
  rcases (show i < ss.length ∨ i = ss.length ∨ i = ss.length + 1 by omega) with e | rfl | rfl
  ·rw [zc13 _ _ _ e]; exact ((zz2 ss).1 h.vh).2 i e
  ·rw [hn.1, zk2]
   exact ⟨h.dt, by show X.length ≤ 4096; rw [h.xl]; exact h.m4, fun j hj => (h.ok j (by rw [← h.xl]; exact hj)).2.2.2⟩
  ·rw [hn.2, zk2]
   refine ⟨h.dt, by simp; exact h.m4, fun j hj => ?_⟩
   have : (List.replicate ix.length k0).getD j k0 = k0 := by simp at hj; simp [List.getD_eq_getElem?_getD, List.getElem?_replicate, hj]
   show validB (dtA ss a) ((List.replicate ix.length k0).getD j k0).1 _ _ = true
   rw [this]; exact zd14 h.dt
 ·rw [zf13, hl]
  intro i hi j hj
  unfold ss2 at hj ⊢
  rcases (show i < ss.length ∨ i = ss.length ∨ i = ss.length + 1 by omega) with e | rfl | rfl
  ·rw [zc13 _ _ _ e] at hj ⊢; exact (zf13 ss).1 h.sg i e j hj
  ·rw [hn.1] at hj ⊢
   exact zd18 (h.ok j (by rw [← h.xl]; exact hj))
  ·rw [hn.2] at hj ⊢
   have : (List.replicate ix.length k0).getD j k0 = k0 := by simp at hj; simp [List.getD_eq_getElem?_getD, List.getElem?_replicate, hj]
   show I64 ((List.replicate ix.length k0).getD j k0).1 ∧ _
   rw [this]; exact ⟨⟨by decide, by decide⟩, by show (0:Nat) < _; decide, by show (0:Nat) < _; decide⟩
theorem TPu.get2 (h : TPu ss a X ix) : (ss2 ss a X ix).getD a.st.toNat s0 = ss.getD a.st.toNat s0 := zc13 _ _ _ h.st.2
theorem TPu.ga2 (h : TPu ss a X ix) : a.Good (ss2 ss a X ix) := by
 refine ⟨⟨h.ga.1.1, by have := h.ga.1.2; simp [ss2]; omega⟩, h.ga.2.1, fun p hp => ?_⟩
 rw [h.get2]
 exact h.ga.2.2 p hp
theorem TPu.gb2 (h : TPu ss a X ix) : (arB ss ix).Good (ss2 ss a X ix) := by
 refine ⟨⟨by simp [arB], by simp [arB, ss2]; omega⟩, zd8 h.m4, fun p hp => ?_⟩
 have e : (arB ss ix).st.toNat = ss.length := by simp [arB]
 rw [e]
 unfold ss2
 rw [(zc6 ss _ _).1]
 simp only [arB] at hp
 rw [zp2 h.m0, List.mem_map] at hp
 obtain ⟨i, hi, rfl⟩ := hp
 rw [List.mem_range] at hi
 show (i : Int) < (X.length : Int)
 rw [h.xl]; omega
theorem TPu.dts (h : TPu ss a X ix) : dtA (ss2 ss a X ix) a = dtA ss a ∧ dtA (ss2 ss a X ix) (arB ss ix) = dtA ss a := by
 constructor
 ·unfold dtA; rw [h.get2]
 ·show ((ss2 ss a X ix).getD (arB ss ix).st.toNat s0).1 = _
  have e : (arB ss ix).st.toNat = ss.length := by simp [arB]
  rw [e]; unfold ss2; rw [(zc6 ss _ _).1]
theorem TPu.rdb (h : TPu ss a X ix) : rdA (ss2 ss a X ix) (arB ss ix) = X := by
 unfold rdA
 have e : (arB ss ix).st.toNat = ss.length := by simp [arB]
 rw [e]
 unfold ss2
 rw [(zc6 ss _ _).1]
 simp only [arB]
 rw [zp2 h.m0]
 refine zq9 (by simp [h.xl]) fun i hi => ?_
 simp at hi
 simp [List.getD_eq_getElem?_getD, hi]
theorem TPu.pcd (h : TPu ss a X ix) : putCd (ss2 ss a X ix) a (arB ss ix) ix = 0 := by
 have hf : firstL (ss2 ss a X ix) [a, arB ss ix] = 0 := by
  unfold firstL
  rw [if_pos h.vs2.1, if_pos]
  intro c hc
  simp at hc
  rcases hc with rfl | rfl
  ·exact h.ga2
  ·exact h.gb2
 have hfit : fitB (arB ss ix) ix = true := by simp [fitB, arB, prod]
 have hix : ixCd ix (prod a.xs) = 0 := by
  unfold ixCd
  rw [if_pos]
  intro c hc
  obtain ⟨j, hj, rfl⟩ := List.getElem_of_mem hc
  have z := h.ir j hj
  rw [List.getD_eq_getElem?_getD, List.getElem?_eq_getElem hj] at z
  exact z
 unfold putCd
 rw [if_neg (by rw [hf]; simp), hfit, hix, h.dts.1, h.dts.2, zr11 h.dt, decide_eq_true h.nd]
 decide
theorem TPu.pl (h : TPu ss a X ix) (j : Nat) (hj : j < ix.length) : (putL a ix).getD j 0 = (offsL a.xs a.sv a.off).getD (frS (ix.getD j 0) (prod a.xs)).toNat 0 := by
 have _h := h
 unfold putL
 simp [List.getD_eq_getElem?_getD, hj]
theorem TPu.fr (h : TPu ss a X ix) (j : Nat) (hj : j < ix.length) : 0 ≤ frS (ix.getD j 0) (prod a.xs) ∧ (frS (ix.getD j 0) (prod a.xs)).toNat < (offsL a.xs a.sv a.off).length := by
 have := h.ir j hj
 rw [zd3 h.ga.2.1]
 unfold frS
 split <;> omega
theorem TPu.pm (h : TPu ss a X ix) (j : Nat) (hj : j < ix.length) : (putL a ix).getD j 0 ∈ offsL a.xs a.sv a.off := by
 rw [h.pl j hj, List.getD_eq_getElem?_getD, List.getElem?_eq_getElem (h.fr j hj).2]
 exact List.getElem_mem _
theorem TPu.pin (h : TPu ss a X ix) (j : Nat) (hj : j < ix.length) : 0 ≤ (putL a ix).getD j 0 ∧ ((putL a ix).getD j 0).toNat < (ss.getD a.st.toNat s0).2.length := by
 have h1 := h.pm j hj
 have h2 := h.ga.2.2 _ h1
 have h3 := (zj3 h.ga.2.1 _ h1).1
 omega
theorem TPu.pinj (h : TPu ss a X ix) (i j : Nat) (hi : i < ix.length) (hj : j < ix.length) (e : ((putL a ix).getD i 0).toNat = ((putL a ix).getD j 0).toNat) : i = j := by
 have e1 : (putL a ix).getD i 0 = (putL a ix).getD j 0 := by have := (h.pin i hi).1; have := (h.pin j hj).1; omega
 rw [h.pl i hi, h.pl j hj, zc11 (h.fr i hi).2, zc11 (h.fr j hj).2] at e1
 have hp := List.pairwise_iff_getElem.1 h.nd
 have e2 : (frS (ix.getD i 0) (prod a.xs)).toNat = (frS (ix.getD j 0) (prod a.xs)).toNat := by
  rcases Nat.lt_trichotomy (frS (ix.getD i 0) (prod a.xs)).toNat (frS (ix.getD j 0) (prod a.xs)).toNat with q | q | q
  ·exact absurd e1 (hp _ _ _ _ q)
  ·exact q
  ·exact absurd e1.symm (hp _ _ _ _ q)
 have z1 := (h.fr i hi).1
 have z2 := (h.fr j hj).1
 exact h.id i j hi hj (by omega)
end
end
section
open Go.ChangeShapes Go.RowKit FL
theorem zn13 {P : C3 → Prop} {cs : List C3} {L : List Int} {X : List C3} {n : Nat} (hcs : ∀ p, p < cs.length → P (cs.getD p k0)) (hX : ∀ j, j < n → P (X.getD j k0)) (hin : ∀ i j, i < n → j < n → (L.getD i 0).toNat = (L.getD j 0).toNat → X.getD i k0 = X.getD j k0) (p : Nat) (hp : p < cs.length) : P ((putC cs L X n).getD p k0) := by
 by_cases h : ∃ j, j < n ∧ (L.getD j 0).toNat = p
 ·obtain ⟨j, hj, rfl⟩ := h
  rw [zp6 cs L X n hin j hj hp]
  exact hX j hj
 ·rw [zk10 cs L X p n (fun j hj e => h ⟨j, hj, e⟩)]
  exact hcs p hp
theorem zv4 (ss : List St) (m : Nat) (L : List Int) (X : List C3) (n : Nat) (hm : m < ss.length) : (putT ss m L X n).getD m s0 = ((ss.getD m s0).1, putC (ss.getD m s0).2 L X n) := by
 unfold putT
 rw [ze8, if_pos ⟨rfl, hm⟩]
theorem zj10 {ss : List St} {m n : Nat} {L : List Int} {X : List C3} (hm : m < ss.length) (hv : vHeap ss = true) (hg : SG ss) (hX : ∀ j, j < n → OkC (ss.getD m s0).1 (X.getD j k0)) (hin : ∀ i j, i < n → j < n → (L.getD i 0).toNat = (L.getD j 0).toNat → X.getD i k0 = X.getD j k0) : vHeap (putT ss m L X n) = true ∧ SG (putT ss m L X n) := by
 have hv' := (zz2 ss).1 hv
 have hg' := (zf13 ss).1 hg
 constructor
 ·rw [zz2, zp]
  refine ⟨hv'.1, fun i hi => ?_⟩
  by_cases e : i = m
  ·subst e
   have h1 := (zk2 _).1 (hv'.2 i hm)
   rw [zv4 _ _ _ _ _ hm, zk2]
   refine ⟨h1.1, by show (putC _ _ _ _).length ≤ _; rw [zw4]; exact h1.2.1, fun p hp => ?_⟩
   rw [show (((ss.getD i s0).1, putC (ss.getD i s0).2 L X n) : St).2.length = (ss.getD i s0).2.length from zw4 _ _ _ _] at hp
   exact zn13 (P := fun c => validB (ss.getD i s0).1 c.1 c.2.1 c.2.2 = true) h1.2.2 (fun j hj => (hX j hj).2.2.2) hin p hp
  ·rw [(zb1 ss m L X n i).2.2 e]
   exact hv'.2 i hi
 ·rw [zf13, zp]
  intro i hi p hp
  by_cases e : i = m
  ·subst e
   rw [(zb1 ss i L X n i).2.1] at hp
   rw [zv4 _ _ _ _ _ hm]
   exact zn13 (P := fun c => I64 c.1 ∧ B64 c.2.1 ∧ B64 c.2.2) (hg' i hm) (fun j hj => zd18 (hX j hj)) hin p hp
  ·rw [(zb1 ss m L X n i).2.2 e] at hp ⊢
   exact hg' i hi p hp
theorem zr9 {ss : List St} {a : Ar} (h : a.Good ss) (m : Nat) (L : List Int) (X : List C3) (n : Nat) : a.Good (putT ss m L X n) := by
 refine ⟨by rw [zp]; exact h.1, h.2.1, fun p hp => ?_⟩
 rw [(zb1 ss m L X n a.st.toNat).2.1]
 exact h.2.2 p hp
theorem zs15 {ss : List St} {N : Nat} (h : SL ss N) (m : Nat) (L : List Int) (X : List C3) (n : Nat) : SL (putT ss m L X n) N := by
 refine ⟨by rw [zp]; exact h.1, fun s hs => ?_⟩
 obtain ⟨i, hi, rfl⟩ := List.getElem_of_mem hs
 have e : (putT ss m L X n)[i] = (putT ss m L X n).getD i s0 := by rw [List.getD_eq_getElem?_getD, List.getElem?_eq_getElem hi]; rfl
 rw [e, (zb1 ss m L X n i).2.1]
 rw [zp] at hi
 exact h.at i hi
theorem zl9 {m j : Nat} (hj : j < m) : ((List.range m).map fun (i : Nat) => (i : Int)).getD j 0 = (j : Int) := by
 simp [List.getD_eq_getElem?_getD, hj]
section
variable {ss : List St} {a : Ar} {X : List C3} {ix : List Int}
theorem TPu.l2 (h : TPu ss a X ix) : (ss2 ss a X ix).length = ss.length + 2 := by
 have _h := h
 simp [ss2]
theorem TPu.good3 (h : TPu ss a X ix) : vHeap (ss3 ss a X ix) = true ∧ SG (ss3 ss a X ix) := by
 refine zj10 (by rw [h.l2]; have := h.st; omega) h.vs2.1 h.vs2.2 (fun j hj => ?_) (fun i j hi hj e => by rw [h.pinj i j hi hj e])
 rw [h.get2]
 exact h.ok j hj
theorem TPu.oo (h : TPu ss a X ix) : (arO ss ix).st.toNat = ss.length + 1 := by
 have _h := h
 simp [arO]
theorem TPu.get3o (h : TPu ss a X ix) : (ss3 ss a X ix).getD (ss.length + 1) s0 = (dtA ss a, List.replicate ix.length k0) := by
 unfold ss3
 rw [(zb1 _ _ _ _ _ _).2.2 (by have := h.st; omega)]
 exact (zc6 ss _ _).2
theorem TPu.go2 (h : TPu ss a X ix) : (arO ss ix).Good (ss2 ss a X ix) := by
 refine ⟨⟨by simp [arO]; omega, by rw [h.l2]; simp [arO]⟩, zd8 h.m4, fun p hp => ?_⟩
 rw [h.oo]
 unfold ss2
 rw [(zc6 ss _ _).2]
 simp only [arO] at hp
 rw [zp2 h.m0, List.mem_map] at hp
 obtain ⟨i, hi, rfl⟩ := hp
 rw [List.mem_range] at hi
 simp; omega
theorem TPu.ga3 (h : TPu ss a X ix) : a.Good (ss3 ss a X ix) := zr9 h.ga2 _ _ _ _
theorem TPu.go3 (h : TPu ss a X ix) : (arO ss ix).Good (ss3 ss a X ix) := zr9 h.go2 _ _ _ _
theorem TPu.dts3 (h : TPu ss a X ix) : dtA (ss3 ss a X ix) a = dtA ss a ∧ dtA (ss3 ss a X ix) (arO ss ix) = dtA ss a := by
 constructor
 ·unfold dtA ss3
  rw [(zb1 _ _ _ _ _ _).1, h.get2]
 ·show ((ss3 ss a X ix).getD (arO ss ix).st.toNat s0).1 = _
  rw [h.oo, h.get3o]
theorem TPu.tcd (h : TPu ss a X ix) : takeCd (ss3 ss a X ix) a (arO ss ix) ix = 0 := by
 have hf : firstL (ss3 ss a X ix) [a, arO ss ix] = 0 := by
  unfold firstL
  rw [if_pos h.good3.1, if_pos]
  intro c hc
  simp at hc
  rcases hc with rfl | rfl
  ·exact h.ga3
  ·exact h.go3
 have hln : lnB (arO ss ix) ix = true := by simp [lnB, arO]
 have hix : ixCd ix (prod a.xs) = 0 := by
  unfold ixCd
  rw [if_pos]
  intro c hc
  obtain ⟨j, hj, rfl⟩ := List.getElem_of_mem hc
  have z := h.ir j hj
  rw [List.getD_eq_getElem?_getD, List.getElem?_eq_getElem hj] at z
  exact z
 have hnd : (offsL (arO ss ix).xs (arO ss ix).sv (arO ss ix).off).Nodup := by
  simp only [arO]
  rw [zp2 h.m0]
  refine List.Pairwise.map _ (fun x y hxy e => hxy ?_) (List.nodup_range (n := ix.length))
  exact Int.ofNat_inj.1 e
 unfold takeCd
 rw [if_neg (by rw [hf]; simp), hln, hix, h.dts3.1, h.dts3.2, zr11 h.dt, decide_eq_true hnd]
 decide
theorem TPu.tx (h : TPu ss a X ix) : takeX (ss3 ss a X ix) a ix = X := by
 refine zq9 (by unfold takeX; rw [List.length_map, h.xl]) fun j hj => ?_
 have hj' : j < ix.length := by unfold takeX at hj; rw [List.length_map] at hj; exact hj
 have e1 : (takeX (ss3 ss a X ix) a ix).getD j k0 = (rdA (ss3 ss a X ix) a).getD (frS (ix.getD j 0) (prod a.xs)).toNat k0 := by
  unfold takeX
  simp [List.getD_eq_getElem?_getD, hj']
 have hfr := (h.fr j hj').2
 have e2 : (rdA (ss3 ss a X ix) a).getD (frS (ix.getD j 0) (prod a.xs)).toNat k0 = ((ss3 ss a X ix).getD a.st.toNat s0).2.getD ((putL a ix).getD j 0).toNat k0 := by
  unfold rdA
  rw [h.pl j hj', zc11 hfr, List.getD_eq_getElem?_getD, List.getElem?_map, List.getElem?_eq_getElem hfr]
  rfl
 rw [e1, e2]
 unfold ss3
 rw [zv4 _ _ _ _ _ (by rw [h.l2]; have := h.st; omega), h.get2]
 exact zp6 _ _ _ _ (fun i j hi hj e => by rw [h.pinj i j hi hj e]) j hj' (h.pin j hj').2
theorem TPu.ol (h : TPu ss a X ix) : (offsL [(ix.length : Int)] [1] 0).length = ix.length := by rw [zp2 h.m0]; simp
theorem TPu.linj (h : TPu ss a X ix) : ∀ i j, i < (offsL [(ix.length : Int)] [1] 0).length → j < (offsL [(ix.length : Int)] [1] 0).length → ((offsL [(ix.length : Int)] [1] 0).getD i 0).toNat = ((offsL [(ix.length : Int)] [1] 0).getD j 0).toNat → X.getD i k0 = X.getD j k0 := fun i j hi hj e => by
 rw [h.ol] at hi hj
 rw [zp2 h.m0, zl9 hi, zl9 hj] at e
 rw [show i = j by omega]
theorem TPu.good4 (h : TPu ss a X ix) : vHeap (ss4 ss a X ix) = true ∧ SG (ss4 ss a X ix) ∧ (arO ss ix).Good (ss4 ss a X ix) := by
 have hl3 : (ss3 ss a X ix).length = ss.length + 2 := by unfold ss3; rw [zp, h.l2]
 have q := zj10 (m := (arO ss ix).st.toNat) (n := (offsL [(ix.length : Int)] [1] 0).length) (L := offsL [(ix.length : Int)] [1] 0) (X := X) (by rw [h.oo, hl3]; omega) h.good3.1 h.good3.2 (fun j hj => by
  rw [h.oo, h.get3o]
  exact h.ok j (by rw [h.ol] at hj; exact hj)) h.linj
 exact ⟨q.1, q.2, zr9 h.go3 _ _ _ _⟩
theorem TPu.rd4 (h : TPu ss a X ix) : readA (ss4 ss a X ix) (arO ss ix).st (arO ss ix).xs (arO ss ix).sv (arO ss ix).off = X := by
 unfold readA
 rw [if_pos ⟨h.good4.1, h.good4.2.2⟩]
 unfold readL
 have hl3 : (ss3 ss a X ix).length = ss.length + 2 := by unfold ss3; rw [zp, h.l2]
 have e : (ss4 ss a X ix).getD (arO ss ix).st.toNat s0 = (dtA ss a, putC (List.replicate ix.length k0) (offsL [(ix.length : Int)] [1] 0) X (offsL [(ix.length : Int)] [1] 0).length) := by
  unfold ss4
  rw [zv4 _ _ _ _ _ (by rw [h.oo, hl3]; omega), h.oo, h.get3o]
 rw [e]
 refine zq9 (by simp only [arO]; rw [List.length_map, h.ol, h.xl]) fun j hj => ?_
 simp only [arO] at hj ⊢
 rw [List.length_map, h.ol] at hj
 have hj2 : j < (offsL [(ix.length : Int)] [1] 0).length := by rw [h.ol]; exact hj
 have e3 : (offsL [(ix.length : Int)] [1] 0).getD j 0 = (j : Int) := by rw [zp2 h.m0, zl9 hj]
 rw [List.getD_eq_getElem?_getD, List.getElem?_map, List.getElem?_eq_getElem hj2, ← zc11 hj2]
 show (putC (List.replicate ix.length k0) (offsL [(ix.length : Int)] [1] 0) X (offsL [(ix.length : Int)] [1] 0).length).getD ((offsL [(ix.length : Int)] [1] 0).getD j 0).toNat k0 = _
 refine zp6 _ _ _ _ h.linj j hj2 ?_
 rw [e3]
 simpa using hj
theorem TPu.rd2 (h : TPu ss a X ix) : readA (ss2 ss a X ix) (arB ss ix).st (arB ss ix).xs (arB ss ix).sv (arB ss ix).off = X := by
 unfold readA
 rw [if_pos ⟨h.vs2.1, h.gb2⟩]
 exact h.rdb
end
end
section
open Go.ChangeShapes Go.RowKit FL
theorem DH.form {w : World} {H : Nat} {sv : Value} {L : List Dst} (h : DH w H sv L) : ∃ sa cap, sv = σ sa L.length cap := by
 rcases h.own.2 with ⟨rfl, h0⟩ | ⟨g, cap, cur, rfl, _⟩
 ·exact ⟨none, 0, by rw [h0]⟩
 ·exact ⟨_, cap, rfl⟩
theorem DH.at {w : World} {H : Nat} {sv : Value} {L : List Dst} (h : DH w H sv L) {i : Nat} {t : Dst} (hi : L[i]? = some t) : ∃ g cap, sv = σ (some ⟨g, 0, none⟩) L.length cap ∧ w.cell? ⟨g, i * 2, none⟩ = some (O ι t.1) ∧ w.cell? ⟨g, i * 2 + 1, none⟩ = some t.2.1 ∧ (∀ o, w.frozen? ⟨g, o, none⟩ = false) ∧ H ≤ g ∧ g < w.heap.size := by
 have hl : i < L.length := (List.getElem?_eq_some_iff.1 hi).1
 rcases h.own.2 with ⟨rfl, h0⟩ | ⟨g, cap, cur, rfl, _⟩
 ·omega
 ·have hf := zz3 L i t hi
  have hb := h.own.lt g rfl
  exact ⟨g, cap, rfl, (h.own.cellAt _ (by omega)).trans hf.1, (h.own.cellAt _ (by omega)).trans hf.2, fun o => h.own.frozenAt o, hb.1, hb.2⟩
theorem zd4 {w : World} {H : Nat} {v : Value} {cs : List C3} (h : w.ownsRow H 47 3 v cs.length (flat cs)) : ∃ sa cap, v = σ sa cs.length cap ∧ (0 < cs.length → ∃ g, sa = some ⟨g, 0, none⟩ ∧ H ≤ g) := by
 rcases h.2 with ⟨rfl, h0⟩ | ⟨g, cap, cur, rfl, q, _⟩
 ·exact ⟨none, 0, by rw [h0], fun h => by omega⟩
 ·exact ⟨_, cap, rfl, fun _ => ⟨g, rfl, q⟩⟩
theorem CG.app {cs : List C3} {c : C3} (h : CG cs) (hc : CellOk c.1 c.2.1 c.2.2) : CG (cs ++ [c]) := fun d hd => by
 rcases List.mem_append.1 hd with q | q
 ·exact h d q
 ·simp at q; subst q; exact hc
theorem DtOk.app {L : List Dst} (h : DtOk L) {d : Int} {c : Value} {cs : List C3} (hd : 1 ≤ d ∧ d ≤ 9) : DtOk (L ++ [(d, c, cs)]) := fun t ht => by
 rcases List.mem_append.1 ht with q | q
 ·exact h t q
 ·simp at q; subst q; exact hd
theorem zf6 {b : Nat} {u w w' : World} (h : u.grownBy w (some b)) (k : w.grownBy w' (some b)) : u.grownBy w' (some b) :=
 ⟨k.os.trans h.os, k.tape.trans h.tape, k.output.trans h.output, Nat.le_trans h.size k.size, fun j hj hne => (k.block j (Nat.lt_of_lt_of_le hj h.size) hne).trans (h.block j hj hne)⟩
theorem za21 {w w' : World} (b : Nat) (x : Bel w w') : w.grownBy w' (some b) := ⟨Below.os x, Below.tape x, Below.output x, Below.size x, fun k hk _ => Below.block x k hk⟩
theorem zg14 {b : Nat} {u w w' : World} {row : Option Nat} (h : u.grownBy w (some b)) (k : w.grownBy w' row) (hr : ∀ j, row = some j → u.heap.size ≤ j) : u.grownBy w' (some b) :=
 ⟨k.os.trans h.os, k.tape.trans h.tape, k.output.trans h.output, Nat.le_trans h.size k.size, fun j hj hne => (k.block j (Nat.lt_of_lt_of_le hj h.size) (fun e => by have := hr j e.symm; omega)).trans (h.block j hj hne)⟩
theorem zn9 {w w' : World} {base e size n b : Nat} {v : Value} {xs : List Value} (h : w.ownsRow base e size v n xs) (m : Mut b w w') (hb : v.ownBlock ≠ some b) : w'.ownsRow base e size v n xs := h.kept (zy3 m) (Or.inr hb)
theorem zb17 {r : Option Nat} {u w : World} (h : u.grownBy w r) : u.grownBy w.drew r := ⟨h.os, h.tape, h.output, h.size, h.block⟩
theorem zk1 {w W : World} {H b : Nat} (hs : SF w W H b) {sv : Value} {L : List Dst} (h : DH W H sv L) (hn : L.length ≤ 70) :
  Calls Tryz.prog 49 #[γ #[sv], π (some ⟨b, 0, none⟩)] W fun e W' => ∃ v : Int, e = .returned (O ι v) ∧ 0 ≤ v ∧ (v < L.length ∨ v = 0) ∧ SF w W' H b ∧ W.grownBy W' (some b) := by
 obtain ⟨sa, cap, rfl⟩ := h.form
 have S1 := hide (hs.alloc (χ #[σ sa L.length cap] 25))
 have hbl := (hs.hb)
 have hW := hs.sz
 have hhh := hs.hH
 have G1 : Hid (W.grownBy (W.alloc (χ #[σ sa L.length cap] 25)) (some b)) := World.grownBy_alloc W _ _
 clear h hs
 go_enter Tryz.func49, Tryz.ntmps49
 go_wp2_with fail
 refine (S1.out.next _).mono ?_
 rintro e W1 ⟨v, rfl, ⟨hv0, hv1, hv2⟩, s1, m1⟩
 have S2 := hide s1
 have G2 := hide (zf6 G1.out (zy3 m1))
 clear s1 m1 G1 S1
 go_wp2
 go_ret
 refine ⟨v, rfl, hv0, ?_, S2.out, G2.out⟩
 by_cases q : 1 < (L.length : Int)
 ·exact Or.inl (hv1 q)
 ·exact Or.inr (hv2 (by omega))
end
section
open Go.ChangeShapes Go.RowKit
structure RB3 (W : World) (R : Nat) : Prop where
 r0 : W.cell? ⟨R, 0, none⟩ = some (σ none 0 0)
 r1 : W.cell? ⟨R, 1, none⟩ = some (σ none 0 0)
 r2 : W.cell? ⟨R, 2, none⟩ = some (O ι 0)
 rf : ∀ o, W.frozen? ⟨R, o, none⟩ = false
theorem RB3.bel {W W' : World} {R : Nat} (h : RB3 W R) (x : Bel W W') : RB3 W' R := ⟨Bel.box x h.r0, Bel.box x h.r1, Bel.box x h.r2, fun o => (Below.frozen x (p := ⟨R, o, none⟩) (zl h.r0)).trans (h.rf o)⟩
theorem RB3.make (W : World) (R : Nat) (hR : R = W.heap.size) : RB3 (W.alloc (χ #[σ none 0 0, σ none 0 0, O ι 0] 28)) R := by
 subst hR
 have n := fun j => zg W #[σ none 0 0, σ none 0 0, O ι 0] 28 W.heap.size rfl j
 exact ⟨n 0, n 1, n 2, fun o => ((Ext.refl W).alloc _ _).unfrozen (Nat.le_refl _) o⟩
theorem DV.below {w : World} {lo R o : Nat} {vA vB u : Value} {xs ss : List Int} (h : DV w lo vA vB xs ss) (hR : R < lo) : DV (w.setCell ⟨R, o, none⟩ u) lo vA vB xs ss :=
 ⟨ownsRow_setCell_below h.a (a := ⟨R, o, none⟩) hR _, ownsRow_setCell_below h.c (a := ⟨R, o, none⟩) hR _, h.dj⟩
theorem zz15 (w : World) (c o : Int) (sa sb : Option Addr) (n m ca cb : Nat) : (Instr.field 123 (γ #[O ι c, σ sa n ca, σ sb m cb, O ι o]) 1).run Tryz.prog w = .ok (γ #[σ sa n ca, σ sb m cb, O ι o]) w := by
 simp [Instr.field, run_underlying Tryz.underlying123, run_underlying Tryz.underlying28, run_underlying Tryz.underlying2, go_sem, part, isAgg, asAgg]
theorem zh13 (w : World) (c o : Int) (sa sb : Option Addr) (n m ca cb : Nat) : (Instr.field 123 (γ #[O ι c, σ sa n ca, σ sb m cb, O ι o]) 0).run Tryz.prog w = .ok (O ι c) w := by
 simp [Instr.field, run_underlying Tryz.underlying123, run_underlying Tryz.underlying28, run_underlying Tryz.underlying2, go_sem, part, isAgg, asAgg]
attribute [local go_sem] zz15 zh13
def DenseOk (w : World) (ys : List Int) (off : Int) (e : Ending) (w' : World) : Prop := ∃ (sa sb : Option Addr) (ca cb : Nat) (L S : List Int), e = .returned (γ #[σ sa L.length ca, σ sb S.length cb, O ι off]) ∧ DV w' w.heap.size (σ sa L.length ca) (σ sb S.length cb) L S ∧ VI L S ∧ Bel w w' ∧ ∃ c o, rsL [cntL ys] [1] 0 ys = (c, L, S, o)
theorem zt7 {w : World} {v : Value} {ys : List Int} (off : Int) (hy : Ints w v ys) (hl : ys.length ≤ 4) : Calls Tryz.prog 78 #[v, O ι off] w fun e w' => DenseOk w ys off e w' := by
 have R0 := hide (RB3.make w w.heap.size rfl)
 have HY := hide (hy.ext ((Ext.refl w).alloc #[σ none 0 0, σ none 0 0, O ι 0] 28))
 obtain ⟨sv, cv, rfl, _⟩ := hy
 go_enter Tryz.func78, Tryz.ntmps78
 go_wp2_with fail
 refine (zj1 HY.out (by omega)).mono ?_
 rintro e w1 ⟨rfl, rfl⟩
 generalize hcn : cntL ys = cn
 generalize hV : w.alloc (χ #[σ none 0 0, σ none 0 0, O ι 0] 28) = V0 at R0 HY ⊢
 have n1 := fun j => zg V0 #[O ι cn] 2 V0.heap.size rfl j
 have n2 := fun j => zg (V0.alloc (χ #[O ι cn] 2)) #[O ι 1] 2 (V0.heap.size + 1) (by simp) j
 have y1 : Ext V0 (V0.alloc (χ #[O ι cn] 2)) := (Ext.refl _).alloc _ _
 have y2 : Ext (V0.alloc (χ #[O ι cn] 2)) ((V0.alloc (χ #[O ι cn] 2)).alloc (χ #[O ι 1] 2)) := (Ext.refl _).alloc _ _
 have I1 : Hid (Ints ((V0.alloc (χ #[O ι cn] 2)).alloc (χ #[O ι 1] 2)) (σ (some ⟨V0.heap.size, 0, none⟩) 1 1) [cn]) := ⟨_, 1, rfl, Or.inr ⟨_, 0, rfl, fun j hj => by
  obtain rfl : j = 0 := by simp at hj; omega
  exact y2.box (n1 0)⟩⟩
 have I2 : Hid (Ints ((V0.alloc (χ #[O ι cn] 2)).alloc (χ #[O ι 1] 2)) (σ (some ⟨V0.heap.size + 1, 0, none⟩) 1 1) [1]) := ⟨_, 1, rfl, Or.inr ⟨_, 0, rfl, fun j hj => by
  obtain rfl : j = 0 := by simp at hj; omega
  exact n2 0⟩⟩
 have HY2 := hide ((HY.out.ext y1).ext y2)
 have R2 := hide ((R0.out.bel y1.bl).bel y2.bl)
 have BB : Hid (Bel w ((V0.alloc (χ #[O ι cn] 2)).alloc (χ #[O ι 1] 2))) := by
  show Bel w _
  rw [← hV]
  exact (((((Ext.refl w).alloc _ _).alloc _ _).alloc _ _)).bl
 clear n1 n2 y1 y2 R0 HY hV
 go_wp2_with fail
 rcases hq : rsL [cn] [1] 0 ys with ⟨c, L, S, o⟩
 refine (zv19 I1.out I2.out HY2.out 0 (by simp) (by simp) (by omega) hq).mono ?_
 rintro e W8 h8
 obtain ⟨sa', sb', ca', cb', rfl, hD, hB⟩ := h8.dv (H := w.heap.size + 1) (zl R2.out.r0)
 have HD := hide hD
 have hvi := hide (zk21 hq)
 have HQ : Hid (∃ c o, rsL [cntL ys] [1] 0 ys = (c, L, S, o)) := ⟨c, o, by rw [hcn]; exact hq⟩
 have R8 := hide (R2.out.bel hB)
 have B8 := hide (Bel.tr BB.out hB)
 clear hq h8 hD hB hcn
 have y8 : Ext W8 (W8.alloc (χ #[σ sa' L.length ca', σ sb' S.length cb', O ι off] 28)) := (Ext.refl _).alloc _ _
 have R9 := R8.out.bel y8.bl
 have r0 := R9.r0
 have r1 := R9.r1
 have r2 := R9.r2
 have rf := R9.rf
 have D9 := hide (HD.out.bel y8.bl)
 have B9 := hide (Bel.tr B8.out y8.bl)
 clear y8 R8 R9 HD B8
 go_wp2
 exact bodyPost_ret (v := γ #[σ sa' L.length ca', σ sb' S.length cb', O ι off]) (by simp [results, Tryz.results78, go_sem, zx18 r0, zw18 r1, zv18 r2]) rfl ⟨sa', sb', ca', cb', L, S, rfl, (((D9.out.below (Nat.lt_succ_self _)).below (Nat.lt_succ_self _)).below (Nat.lt_succ_self _)).low (Nat.le_succ _), hvi.out, ((B9.out.setCell (Nat.le_refl _) _).setCell (Nat.le_refl _) _).setCell (Nat.le_refl _) _, HQ.out⟩
end
section
open Go.ChangeShapes Go.RowKit FL
def Sm (ys : List Int) : Prop := ys.length ≤ 3 ∧ ∀ n ∈ ys, 0 ≤ n ∧ n ≤ 4
theorem Sm.prod {ys : List Int} (h : Sm ys) : 0 ≤ prod ys ∧ prod ys ≤ 64 := by
 obtain ⟨h1, h2⟩ := h
 match ys, h1, h2 with
 | [], _, _ => simp [Go.Proofs.YtjbbodfdpbcnhaaGreat.prod]
 | [a], _, h2 => have := h2 a (by simp); simp [Go.Proofs.YtjbbodfdpbcnhaaGreat.prod]; omega
 | [a, b], _, h2 =>
  have ha := h2 a (by simp)
  have hb := h2 b (by simp)
  simp only [Go.Proofs.YtjbbodfdpbcnhaaGreat.prod, Int.mul_one, List.foldl]
  rcases (show a = 0 ∨ a = 1 ∨ a = 2 ∨ a = 3 ∨ a = 4 by omega) with rfl | rfl | rfl | rfl | rfl <;> omega
 | [a, b, c], _, h2 =>
  have ha := h2 a (by simp)
  have hb := h2 b (by simp)
  have hc := h2 c (by simp)
  simp only [Go.Proofs.YtjbbodfdpbcnhaaGreat.prod, Int.mul_one, List.foldl]
  rcases (show a = 0 ∨ a = 1 ∨ a = 2 ∨ a = 3 ∨ a = 4 by omega) with rfl | rfl | rfl | rfl | rfl <;> rcases (show b = 0 ∨ b = 1 ∨ b = 2 ∨ b = 3 ∨ b = 4 by omega) with rfl | rfl | rfl | rfl | rfl <;> omega
theorem Sm.good {ys : List Int} (h : Sm ys) : Good ys := by
 refine ⟨by have := h.1; omega, fun j hj => ?_, by have := h.prod; omega⟩
 have : ys.getD j 0 ∈ ys := by rw [List.getD_eq_getElem?_getD, List.getElem?_eq_getElem hj]; exact List.getElem_mem hj
 have := h.2 _ this
 omega
theorem Sm.cnt {ys : List Int} (h : Sm ys) : cntL ys = Go.Proofs.YtjbbodfdpbcnhaaGreat.prod ys := by unfold cntL; rw [if_pos h.good]
theorem zk16 {p : Int} (h0 : 0 ≤ p) (h1 : p ≤ 64) : ValidV [p] [1] 0 := by
 refine ⟨⟨by simp, fun j hj => ?_, by simp [prod]; omega⟩, rfl, by omega, fun j hj => ?_, ?_⟩
 ·obtain rfl : j = 0 := by simp at hj; omega
  simp; omega
 ·obtain rfl : j = 0 := by simp at hj; omega
  simp
 ·by_cases e : p = 0
  ·left; simp [prod, e]
  ·right
   simp [least, most]
   omega
theorem zh20 {p : Int} (h0 : 0 ≤ p) : offsL [p] [1] 0 = ups 0 (offsL [p] [1] 0).length := by
 by_cases e : p = 0
 ·simp [offsL, prod, e, ups]
 ·have hp : ¬ prod [p] = 0 := by simp [prod]; omega
  have : offsL [p] [1] 0 = ups 0 p.toNat := by
   unfold offsL
   rw [if_neg hp]
   simp [places, ups]
   exact (List.map_eq_flatMap ..).symm
  rw [this, zm15]
theorem zv17 {ys : List Int} (h : Sm ys) : rsL [cntL ys] [1] 0 ys = (0, ys, rmS ys, 0) := by
 have hp := h.prod
 rw [h.cnt]
 unfold rsL
 rw [if_pos (zk16 hp.1 hp.2), if_pos ⟨h.good, by simp [prod]⟩, if_pos (zh20 hp.1)]
def IK (w : World) (H : Nat) (v : Value) (xs : List Int) : Prop := ∃ sa cap, v = σ sa xs.length cap ∧ (xs = [] ∨ ∃ g off, sa = some ⟨g, off, none⟩ ∧ Row w g off xs ∧ H ≤ g ∧ NK w g)
theorem IK.ints {w : World} {H : Nat} {v : Value} {xs : List Int} (h : IK w H v xs) : Ints w v xs := by
 obtain ⟨sa, cap, h1, h2⟩ := h
 exact ⟨sa, cap, h1, h2.imp id fun ⟨g, off, a, b, _⟩ => ⟨g, off, a, b⟩⟩
theorem IK.of {w : World} {H : Nat} {v : Value} {xs : List Int} (h : w.ownsRow H 2 1 v xs.length (xs.map (Value.int .i64))) : IK w H v xs := by
 rcases h.2 with ⟨rfl, h0⟩ | ⟨g, cap, cur, rfl, q, _⟩
 ·exact ⟨none, 0, by rw [h0], Or.inl (List.length_eq_zero_iff.1 h0)⟩
 ·refine ⟨_, cap, rfl, ?_⟩
  by_cases e : xs = []
  ·exact Or.inl e
  ·refine Or.inr ⟨g, 0, rfl, fun j hj => ?_, q, zu13 h (by decide) (by decide) rfl⟩
   rw [Nat.zero_add, h.cellAt j (by omega)]
   simp [List.getD_eq_getElem?_getD, hj]
theorem IK.keep {w W : World} {H : Nat} {v : Value} {xs : List Int} (h : IK w H v xs) (x : ∀ k, k < w.heap.size → H ≤ k → NK w k → W.heap[k]? = w.heap[k]?) : IK W H v xs := by
 obtain ⟨sa, cap, h1, h2⟩ := h
 refine ⟨sa, cap, h1, ?_⟩
 by_cases e : xs = []
 ·exact Or.inl e
 obtain ⟨g, off, a, b, c, d⟩ := h2.resolve_left e
 have hg : g < w.heap.size := zl (b 0 (List.length_pos_iff.2 e))
 have hk := x g hg c d
 exact Or.inr ⟨g, off, a, fun j hj => (World.cell?_of_block (w := w) (a := ⟨g, off + j, none⟩) hk).trans (b j hj), c, fun c t f q => d c t f (hk ▸ q)⟩
theorem IK.kf {w W : World} {H b : Nat} {v : Value} {xs : List Int} (h : IK w H v xs) (x : KF H b w W) (hb : b < H) : IK W H v xs := h.keep fun k hk h1 h2 => x.blk k hk (by omega) (Or.inr h2)
theorem IK.bel {w W : World} {H : Nat} {v : Value} {xs : List Int} (h : IK w H v xs) (x : Bel w W) : IK W H v xs := h.keep fun k hk _ _ => Below.block x k hk
structure FB (w W : World) (H b n : Nat) (sv : Value) (L : List Dst) : Prop where
 sf : SF w W H b
 dh : DH W H sv L
 dg : DG L
 dt : DtOk L
 len : L.length = n
 b4 : Bx W w.heap.size 25 [sv]
 b8 : Bx W (w.heap.size + 1) 25 [σ none 0 0]
 b9 : Bx W (w.heap.size + 2) 30 [O ι 0, σ none 0 0, σ none 0 0, O ι 0]
theorem FB.bel {w W W' : World} {H b n : Nat} {sv : Value} {L : List Dst} (h : FB w W H b n sv L) (x : Bel W W') : FB w W' H b n sv L :=
 ⟨h.sf.bel x, h.dh.bel x, h.dg, h.dt, h.len, h.b4.bel x, h.b8.bel x, h.b9.bel x⟩
theorem FB.alloc {w W : World} {H b n : Nat} {sv : Value} {L : List Dst} (h : FB w W H b n sv L) (o : Obj) : FB w (W.alloc o) H b n sv L := h.bel ((Below.refl W.heap.size W).alloc (Nat.le_refl _) o)
theorem FB.drew {w W : World} {H b n : Nat} {sv : Value} {L : List Dst} (h : FB w W H b n sv L) : FB w W.drew H b n sv L :=
 ⟨h.sf.drew, h.dh.drew, h.dg, h.dt, h.len, h.b4, h.b8, h.b9⟩
theorem FB.mut {w W W' : World} {H b n : Nat} {sv : Value} {L : List Dst} (h : FB w W H b n sv L) (s : SF w W' H b) (m : Mut b W W') : FB w W' H b n sv L := by
 have h1 := h.sf.hb
 have h2 := h.sf.hH
 exact ⟨s, h.dh.mut m h1, h.dg, h.dt, h.len, h.b4.mut m (by omega), h.b8.mut m (by omega), h.b9.mut m (by omega)⟩
theorem FB.box {w W : World} {H b n k o : Nat} {sv u : Value} {L : List Dst} {t : TypeId} {vs : List Value} (h : FB w W H b n sv L) (x : Bx W k t vs) (h1 : t ≠ 41) (h2 : t ≠ 47) (hk : w.heap.size + 3 ≤ k) : FB w (W.setCell ⟨k, o, none⟩ u) H b n sv L :=
 ⟨h.sf.set (by omega) o u, h.dh.box x h1 h2, h.dg, h.dt, h.len, h.b4.far (by omega) u, h.b8.far (by omega) u, h.b9.far (by omega) u⟩
theorem FB.row2 {w W W' : World} {H b n : Nat} {sv v : Value} {L : List Dst} {base N : Nat} {xs : List Value} (h : FB w W H b n sv L) (x : W.grownBy W' v.ownBlock) (r : W.ownsRow base 2 1 v N xs) (hb : w.heap.size + 3 ≤ base) : FB w W' H b n sv L :=
 ⟨h.sf.new x (fun k e => by have := (r.lt k e).1; omega), h.dh.keepK r (by decide) (by decide) x, h.dg, h.dt, h.len, h.b4.gb x (h.b4.ne r (by decide)), h.b8.gb x (h.b8.ne r (by decide)), h.b9.gb x (h.b9.ne r (by decide))⟩
structure FV (w W : World) (H b n : Nat) (sv : Value) (L : List Dst) (k : Nat) (vA vB : Value) (xs ss : List Int) (off : Int) : Prop where
 fb : FB w W H b n sv L
 bv : Bx W k 28 [vA, vB, O ι off]
 dv : DV W (w.heap.size + 3) vA vB xs ss
 lx : xs.length ≤ 4
 ls : ss.length ≤ 4
 hk : w.heap.size + 3 ≤ k
theorem FV.bel {w W W' : World} {H b n k : Nat} {sv vA vB : Value} {L : List Dst} {xs ss : List Int} {off : Int} (h : FV w W H b n sv L k vA vB xs ss off) (x : Bel W W') : FV w W' H b n sv L k vA vB xs ss off :=
 ⟨h.fb.bel x, h.bv.bel x, h.dv.bel x, h.lx, h.ls, h.hk⟩
theorem FV.drew {w W : World} {H b n k : Nat} {sv vA vB : Value} {L : List Dst} {xs ss : List Int} {off : Int} (h : FV w W H b n sv L k vA vB xs ss off) : FV w W.drew H b n sv L k vA vB xs ss off :=
 ⟨h.fb.drew, h.bv, ⟨h.dv.a, h.dv.c, h.dv.dj⟩, h.lx, h.ls, h.hk⟩
theorem FV.mut {w W W' : World} {H b n k : Nat} {sv vA vB : Value} {L : List Dst} {xs ss : List Int} {off : Int} (h : FV w W H b n sv L k vA vB xs ss off) (s : SF w W' H b) (m : Mut b W W') : FV w W' H b n sv L k vA vB xs ss off := by
 have h1 := h.fb.sf.hb
 have h2 := h.fb.sf.hH
 have h3 := h.hk
 exact ⟨h.fb.mut s m, h.bv.mut m (by omega), h.dv.mut m (by omega), h.lx, h.ls, h.hk⟩
theorem zh {w : World} {lo : Nat} {v : Value} {xs : List Int} (h : w.ownsRow lo 2 1 v xs.length (xs.map (Value.int .i64))) : ∃ sa cap, v = σ sa xs.length cap ∧ (0 < xs.length → ∃ g, sa = some ⟨g, 0, none⟩ ∧ lo ≤ g ∧ Row w g 0 xs ∧ ∀ o, w.frozen? ⟨g, o, none⟩ = false) := by
 rcases h.2 with ⟨rfl, h0⟩ | ⟨g, cap, cur, rfl, q, _⟩
 ·exact ⟨none, 0, by rw [h0], fun h => by omega⟩
 ·refine ⟨_, cap, rfl, fun hp => ⟨g, rfl, q, fun j hj => ?_, fun o => h.frozenAt o⟩⟩
  rw [Nat.zero_add, h.cellAt j (by omega)]
  simp [List.getD_eq_getElem?_getD, hj]
theorem FV.off {w W : World} {H b n k : Nat} {sv vA vB : Value} {L : List Dst} {xs ss : List Int} {off : Int} (h : FV w W H b n sv L k vA vB xs ss off) (o2 : Int) : FV w (W.setCell ⟨k, 2, none⟩ (O ι o2)) H b n sv L k vA vB xs ss o2 := by
 refine ⟨h.fb.box h.bv (by decide) (by decide) h.hk, by simpa using h.bv.set 2 (O ι o2), ?_, h.lx, h.ls, h.hk⟩
 exact ⟨zu h.dv.a (Ne.symm (h.bv.ne h.dv.a (by decide))), zu h.dv.c (Ne.symm (h.bv.ne h.dv.c (by decide))), h.dv.dj⟩
theorem zi2 {w : World} {lo g m cap : Nat} {xs : List Int} (h : w.ownsRow lo 2 1 (σ (some ⟨g, 0, none⟩) m cap) xs.length (xs.map (Value.int .i64))) : m = xs.length ∧ lo ≤ g ∧ Row w g 0 xs ∧ ∀ o, w.frozen? ⟨g, o, none⟩ = false := by
 have hm : m = xs.length := by
  rcases h.2 with ⟨e, _⟩ | ⟨_, _, _, e, _⟩
  ·simp at e
  ·simp only [Value.slice.injEq] at e; exact e.2.1
 subst hm
 refine ⟨rfl, (h.lt g rfl).1, fun j hj => ?_, fun o => h.frozenAt o⟩
 rw [Nat.zero_add, h.cellAt j (by omega)]
 simp [List.getD_eq_getElem?_getD, hj]
theorem FV.str {w W : World} {H b n k j g m cap : Nat} {sv vA : Value} {L : List Dst} {xs ss : List Int} {off : Int} (h : FV w W H b n sv L k vA (σ (some ⟨g, 0, none⟩) m cap) xs ss off) (x : Int) : FV w (W.setCell ⟨g, j, none⟩ (O ι x)) H b n sv L k vA (σ (some ⟨g, 0, none⟩) m cap) xs (ss.set j x) off := by
 obtain ⟨hm, _⟩ := zi2 h.dv.c
 subst hm
 have hs := h.dv.c.stored j (O ι x)
 refine ⟨h.fb.row2 (v := σ (some ⟨g, 0, none⟩) ss.length cap) hs.2 h.dv.c (Nat.le_refl _), h.bv.gb hs.2 (h.bv.ne h.dv.c (by decide)), ⟨h.dv.a.kept hs.2 h.dv.dj, ?_, h.dv.dj⟩, h.lx, by simpa using h.ls, h.hk⟩
 rw [List.length_set, List.map_set]
 exact hs.1
theorem FV.lay {w W : World} {H b n k : Nat} {sv vA vB uA uB : Value} {L : List Dst} {xs ss zo23 ts : List Int} {off o2 : Int} (h : FV w W H b n sv L k vA vB xs ss off) (d : DV W (w.heap.size + 3) uA uB zo23 ts) (lz : zo23.length ≤ 4) (lt : ts.length ≤ 4) :
  FV w (((W.setCell ⟨k, 0, none⟩ uA).setCell ⟨k, 1, none⟩ uB).setCell ⟨k, 2, none⟩ (O ι o2)) H b n sv L k uA uB zo23 ts o2 := by
 have b1 := h.bv.set 0 uA
 have b2 := b1.set 1 uB
 have b3 := b2.set 2 (O ι o2)
 refine ⟨((h.fb.box h.bv (by decide) (by decide) h.hk).box b1 (by decide) (by decide) h.hk).box b2 (by decide) (by decide) h.hk, by simpa using b3, ?_, lz, lt, h.hk⟩
 have e1 : ∀ {v : Value} {n : Nat} {l : List Value}, W.ownsRow (w.heap.size + 3) 2 1 v n l → (((W.setCell ⟨k, 0, none⟩ uA).setCell ⟨k, 1, none⟩ uB).setCell ⟨k, 2, none⟩ (O ι o2)).ownsRow (w.heap.size + 3) 2 1 v n l := fun {v n l} r => by
  have q := Ne.symm (h.bv.ne r (by decide))
  exact zu (zu (zu r q) q) q
 exact ⟨e1 d.a, e1 d.c, d.dj⟩
structure TL (B W : World) (o p : Value) (Lb Lp : List Int) : Prop where
 bel : Bel B W
 a : W.ownsRow B.heap.size 2 1 o Lb.length (Lb.map (Value.int .i64))
 c : W.ownsRow B.heap.size 2 1 p Lp.length (Lp.map (Value.int .i64))
 dj : o.ownBlock = none ∨ o.ownBlock ≠ p.ownBlock
theorem TL.swap {B W : World} {o p : Value} {Lb Lp : List Int} (h : TL B W o p Lb Lp) : TL B W p o Lp Lb := ⟨h.bel, h.c, h.a, by
 by_cases e : p.ownBlock = none
 ·exact Or.inl e
 ·rcases h.dj with q | q
  ·exact Or.inr (by rw [q]; exact e)
  ·exact Or.inr (Ne.symm q)⟩
theorem TL.step {B W w3 : World} {o p : Value} {Lb Lp : List Int} (h : TL B W o p Lb Lp) (x : Int) {g c : Nat}
  (hown : w3.ownsRow B.heap.size 2 1 (σ (some ⟨g, 0, none⟩) (Lb.length + 1) c) (Lb.length + 1) (Lb.map (Value.int .i64) ++ [O ι x])) (hg : (W.alloc (χ #[O ι x] 2)).grownBy w3 o.ownBlock) (hat : o.ownBlock = some g ∨ g = W.heap.size + 1) :
  TL B w3 (σ (some ⟨g, 0, none⟩) (Lb ++ [x]).length c) p (Lb ++ [x]) Lp := by
 have hs := Below.size h.bel
 refine ⟨⟨hg.os.trans h.bel.os, hg.tape.trans h.bel.tape, hg.output.trans h.bel.output, by have := hg.size; simp at this; omega, fun k hk => ?_⟩, ?_, (h.c.alloc _).kept hg h.swap.dj, ?_⟩
 ·refine (hg.block k (by simp; omega) (fun e => by have := (h.a.lt k e.symm).1; omega)).trans ((heap_alloc_old W _ (by omega)).trans (Below.block h.bel k hk))
 ·rw [List.length_append, List.map_append]; exact hown
 ·refine Or.inr fun e => ?_
  simp only [Value.ownBlock] at e
  rcases hat with q | q
  ·rcases h.dj with r | r
   ·rw [r] at q; cases q
   ·exact r (q.trans e)
  ·have := (h.c.lt g e.symm).2; omega
theorem IK.at {w : World} {H n cap : Nat} {sa : Option Addr} {xs : List Int} (h : IK w H (σ sa n cap) xs) (hp : 0 < xs.length) : ∃ g off, sa = some ⟨g, off, none⟩ ∧ Row w g off xs := by
 obtain ⟨s2, c2, e, h2⟩ := h
 simp only [Value.slice.injEq] at e
 rw [e.1]
 rcases h2 with q | ⟨g, off, q, r, _⟩
 ·rw [q] at hp; simp at hp
 ·exact ⟨g, off, q, r⟩
theorem zm19 {xs ss ps : List Int} {off c : Int} {L S : List Int} {o : Int} (h : trL xs ss off ps = (c, L, S, o)) (hp : ps.length ≤ 4) : L.length ≤ 4 ∧ S.length ≤ 4 := by
 unfold trL at h
 split at h
 ·split at h
  ·simp only [Prod.mk.injEq] at h
   obtain ⟨_, rfl, rfl, _⟩ := h
   rw [zt3, zt3]; omega
  ·simp only [Prod.mk.injEq] at h
   obtain ⟨_, rfl, rfl, _⟩ := h
   simp
 ·simp only [Prod.mk.injEq] at h
  obtain ⟨_, rfl, rfl, _⟩ := h
  simp
structure FA (w W : World) (H b n : Nat) (sv : Value) (L : List Dst) (k : Nat) (st : Int) (vA vB : Value) (xs ss : List Int) (off : Int) : Prop where
 fb : FB w W H b n sv L
 bv : Bx W k 30 [O ι st, vA, vB, O ι off]
 dv : DV W (w.heap.size + 3) vA vB xs ss
 lx : xs.length ≤ 4
 ls : ss.length ≤ 4
 hk : w.heap.size + 3 ≤ k
theorem FA.bel {w W W' : World} {H b n k : Nat} {sv vA vB : Value} {L : List Dst} {xs ss : List Int} {st off : Int} (h : FA w W H b n sv L k st vA vB xs ss off) (x : Bel W W') : FA w W' H b n sv L k st vA vB xs ss off :=
 ⟨h.fb.bel x, h.bv.bel x, h.dv.bel x, h.lx, h.ls, h.hk⟩
theorem FA.lay {w W : World} {H b n k : Nat} {sv vA vB uA uB : Value} {L : List Dst} {xs ss zo23 ts : List Int} {st off o2 : Int} (h : FA w W H b n sv L k st vA vB xs ss off) (d : DV W (w.heap.size + 3) uA uB zo23 ts) (lz : zo23.length ≤ 4) (lt : ts.length ≤ 4) :
  FA w (((W.setCell ⟨k, 1, none⟩ uA).setCell ⟨k, 2, none⟩ uB).setCell ⟨k, 3, none⟩ (O ι o2)) H b n sv L k st uA uB zo23 ts o2 := by
 have b1 := h.bv.set 1 uA
 have b2 := b1.set 2 uB
 have b3 := b2.set 3 (O ι o2)
 refine ⟨((h.fb.box h.bv (by decide) (by decide) h.hk).box b1 (by decide) (by decide) h.hk).box b2 (by decide) (by decide) h.hk, by simpa using b3, ?_, lz, lt, h.hk⟩
 have e1 : ∀ {v : Value} {n : Nat} {l : List Value}, W.ownsRow (w.heap.size + 3) 2 1 v n l → (((W.setCell ⟨k, 1, none⟩ uA).setCell ⟨k, 2, none⟩ uB).setCell ⟨k, 3, none⟩ (O ι o2)).ownsRow (w.heap.size + 3) 2 1 v n l := fun {v n l} r => by
  have q := Ne.symm (h.bv.ne r (by decide))
  exact zu (zu (zu r q) q) q
 exact ⟨e1 d.a, e1 d.c, d.dj⟩
def lenAt (w : World) (g o : Nat) : Nat := match w.cell? ⟨g, o, none⟩ with
 | some (.slice _ n _) => n
 | _ => 0
theorem zg4 {w : World} {g o n c : Nat} {a : Option Addr} (h : w.cell? ⟨g, o, none⟩ = some (σ a n c)) : lenAt w g o = n := by unfold lenAt; rw [h]
theorem DtOk.set {L : List Dst} (h : DtOk L) (i : Nat) {t : Dst} (ht : 1 ≤ t.1 ∧ t.1 ≤ 9) : DtOk (L.set i t) := fun u hu => by
 rcases za12 hu with rfl | q
 ·exact ht
 ·exact h u q
theorem FB.grow {w W w5 : World} {H b n i g cap : Nat} {L : List Dst} {t : Dst} (h : FB w W H b n (σ (some ⟨g, 0, none⟩) L.length cap) L) (hi : L[i]? = some t) {v : Value} {c : C3} (hc : CellOk c.1 c.2.1 c.2.2) (hl : t.2.2.length < 5000)
  (hown : w5.ownsRow H 47 3 v (t.2.2.length + 1) (flat t.2.2 ++ c3v c)) (hg : W.grownBy w5 t.2.1.ownBlock) (hat : ∀ b, v.ownBlock = some b → t.2.1.ownBlock = some b ∨ W.heap.size ≤ b) :
  FB w (w5.setCell ⟨g, i * 2 + 1, none⟩ v) H b n (σ (some ⟨g, 0, none⟩) (L.set i (t.1, v, t.2.2 ++ [c])).length cap) (L.set i (t.1, v, t.2.2 ++ [c])) := by
 have hm : t ∈ L := List.mem_of_getElem? hi
 have hL : (L.set i (t.1, v, t.2.2 ++ [c])).length = L.length := by simp
 rw [hL]
 have r := h.dh.cel i t hi
 have ho := h.dh.own
 have ho5 : w5.ownsRow H 41 2 (σ (some ⟨g, 0, none⟩) L.length cap) L.length (flatD L) := ho.kept hg (zg1 ho r (by decide))
 have b4' := h.b4.gb hg (h.b4.ne r (by decide))
 have b8' := h.b8.gb hg (h.b8.ne r (by decide))
 have b9' := h.b9.gb hg (h.b9.ne r (by decide))
 have hne : ∀ {k : Nat}, some k ≠ (Value.slice (some ⟨g, 0, none⟩) L.length cap).ownBlock → k ≠ g := fun {k} q e => q (by rw [e]; rfl)
 refine ⟨(h.sf.row hg r (Nat.le_refl _) (Or.inr rfl)).row (v := σ (some ⟨g, 0, none⟩) L.length cap) (zh1 w5 g _ v) ho5 (Nat.le_refl _) (Or.inl rfl), ?_, h.dg.set i (h.dg.cg t hm |>.app hc) (by simp; omega), h.dt.set i (h.dt t hm), by simpa using h.len, b4'.far (hne (b4'.ne ho5 (by decide))) v, b8'.far (hne (b8'.ne ho5 (by decide))) v, b9'.far (hne (b9'.ne ho5 (by decide))) v⟩
 have := h.dh.setC hi (v := v) (cs := t.2.2 ++ [c]) (by rw [zw2, List.length_append]; exact hown) hg hat
 exact this
theorem FA.fin {w W : World} {H b n k : Nat} {sv vA vB : Value} {L : List Dst} {xs ss : List Int} {st off : Int} (h : FA w W H b n sv L k st vA vB xs ss off) :
  DH (((((W.setCell ⟨w.heap.size + 1, 0, none⟩ sv).setCell ⟨w.heap.size + 2, 0, none⟩ (O ι st)).setCell ⟨w.heap.size + 2, 1, none⟩ vA).setCell ⟨w.heap.size + 2, 2, none⟩ vB).setCell ⟨w.heap.size + 2, 3, none⟩ (O ι off)).drew H sv L ∧
  DV (((((W.setCell ⟨w.heap.size + 1, 0, none⟩ sv).setCell ⟨w.heap.size + 2, 0, none⟩ (O ι st)).setCell ⟨w.heap.size + 2, 1, none⟩ vA).setCell ⟨w.heap.size + 2, 2, none⟩ vB).setCell ⟨w.heap.size + 2, 3, none⟩ (O ι off)).drew w.heap.size vA vB xs ss ∧
  SF w (((((W.setCell ⟨w.heap.size + 1, 0, none⟩ sv).setCell ⟨w.heap.size + 2, 0, none⟩ (O ι st)).setCell ⟨w.heap.size + 2, 1, none⟩ vA).setCell ⟨w.heap.size + 2, 2, none⟩ vB).setCell ⟨w.heap.size + 2, 3, none⟩ (O ι off)).drew H b := by
 have c0 := h.fb.b9.far (j := w.heap.size + 1) (o := 0) (by omega) sv
 have c1 := c0.set 0 (O ι st)
 have c2 := c1.set 1 vA
 have c3 := c2.set 2 vB
 refine ⟨((((((h.fb.dh.box h.fb.b8 (by decide) (by decide)).box c0 (by decide) (by decide)).box c1 (by decide) (by decide)).box c2 (by decide) (by decide)).box c3 (by decide) (by decide))).drew, ?_, ((((((h.fb.sf.set (by omega) _ _).set (by omega) _ _).set (by omega) _ _).set (by omega) _ _).set (by omega) _ _)).drew⟩
 have q : ∀ {v : Value} {m : Nat} {l : List Value}, W.ownsRow (w.heap.size + 3) 2 1 v m l → (((((W.setCell ⟨w.heap.size + 1, 0, none⟩ sv).setCell ⟨w.heap.size + 2, 0, none⟩ (O ι st)).setCell ⟨w.heap.size + 2, 1, none⟩ vA).setCell ⟨w.heap.size + 2, 2, none⟩ vB).setCell ⟨w.heap.size + 2, 3, none⟩ (O ι off)).drew.ownsRow w.heap.size 2 1 v m l := fun {v m l} r => by
  have q1 : v.ownBlock ≠ some (w.heap.size + 1) := fun e => by have := (r.lt _ e).1; omega
  have q2 : v.ownBlock ≠ some (w.heap.size + 2) := fun e => by have := (r.lt _ e).1; omega
  exact zq3 ((zu (zu (zu (zu (zu r q1) q2) q2) q2) q2).drew) (by omega)
 exact ⟨q h.dv.a, q h.dv.c, h.dv.dj⟩
def FitOk (w : World) (H b n st : Nat) (e : Ending) (W : World) : Prop := ∃ (sv : Value) (L : List Dst) (vA vB : Value) (xs ss : List Int) (off : Int), e = .returned (.tuple #[γ #[sv], γ #[O ι st, vA, vB, O ι off]]) ∧ DH W H sv L ∧ DG L ∧ DtOk L ∧ L.length = n ∧ DV W w.heap.size vA vB xs ss ∧ xs.length ≤ 4 ∧ ss.length ≤ 4 ∧ SF w W H b
end
section
open Go.RowKit FL
theorem za23 (fr i : Int) (f g : Nat) (hi : I64 i) (hx : B64 f) (hy : B64 g) (hv0 : validB fr i f g = false) (w : World) :
  Calls Tryz.prog 40 #[O ι fr, O ι 8, γ #[O ι i, .float .f64 f, .float .f64 g]] w fun e w' => e = .returned (γ #[O ι 0, .float .f64 0, .float .f64 0]) ∧ Ext w w' := by
 have x0 : Ext w (w.alloc (χ #[O ι i, .float .f64 f, .float .f64 g] 47)) := (Ext.refl w).alloc _ _
 have x1 : Ext (w.alloc (χ #[O ι i, .float .f64 f, .float .f64 g] 47)) ((w.alloc (χ #[O ι i, .float .f64 f, .float .f64 g] 47)).alloc (χ #[O ι 0, .float .f64 0, .float .f64 0] 47)) := (Ext.refl _).alloc _ _
 have X0 := hide (x0.trans x1)
 have n0 := fun j => zg w #[O ι i, .float .f64 f, .float .f64 g] 47 w.heap.size rfl j
 have n1 := fun j => zg (w.alloc (χ #[O ι i, .float .f64 f, .float .f64 g] 47)) #[O ι 0, .float .f64 0, .float .f64 0] 47 (w.heap.size + 1) (by simp) j
 have k0 := x1.box (n0 0)
 have k1 := x1.box (n0 1)
 have k2 := x1.box (n0 2)
 have m0 := n1 0
 have m1 := n1 1
 have m2 := n1 2
 simp only [List.getElem?_toArray, List.getElem?_cons_zero, List.getElem?_cons_succ] at m0 m1 m2
 clear n0 n1 x0 x1
 have hkt : skindL 8 = 2 := by decide
 have hval := hide (fun W => zf1 fr i f g hx hy W)
 have hdt : isDtB 8 = true := by decide
 go_enter Tryz.func40, Tryz.ntmps40
 go_wp2_with fail
 generalize ((w.alloc (χ #[O ι i, .float .f64 f, .float .f64 g] 47)).alloc (χ #[O ι 0, .float .f64 0, .float .f64 0] 47)) = W0 at *
 refine (hval.out _).mono ?_
 rintro e w1 ⟨rfl, x1⟩
 rw [hv0]
 have c0 := x1.box k0
 have c1 := x1.box k1
 have c2 := x1.box k2
 have d0 := x1.box m0
 have d1 := x1.box m1
 have d2 := x1.box m2
 have HX := hide (X0.out.trans x1)
 have fz := fun (q : Nat) => HX.out.unfrozen (b := w.heap.size + 1) (by omega) q
 have hf := fz 0
 have hf1 := fz 1
 have hf2 := fz 2
 clear x1 k0 k1 k2 m0 m1 m2 X0 hval fz
 go_wp2_with (first | (go_at_call 55; refine (zk _ _).mono ?_; rintro e w' ⟨rfl, rfl⟩; rw [hdt]) | (go_at_call 71; refine (zo _ _).mono ?_; rintro e w' ⟨rfl, rfl⟩; first |  rw [hkt]) | (go_at_call 74; refine (zl1 _ _).mono ?_; rintro e w' ⟨rfl, rfl⟩))
 refine bodyPost_ret (v := γ #[O ι 0, .float .f64 0, .float .f64 0]) (by simp [results, Tryz.results40, go_sem, d0, d1, d2]) rfl ⟨rfl, ?_⟩
 exact ((HX.out.setCell (p := ⟨w.heap.size + 1, 0, none⟩) (by show _ ≤ w.heap.size + 1; omega) _).setCell (p := ⟨w.heap.size + 1, 1, none⟩) (by show _ ≤ w.heap.size + 1; omega) _).setCell (p := ⟨w.heap.size + 1, 2, none⟩) (by show _ ≤ w.heap.size + 1; omega) _
theorem zp22 (fr i : Int) (f g : Nat) (hi : I64 i) (hx : B64 f) (hy : B64 g) (hv0 : validB fr i f g = true) (hkf : skindL fr = 0) (w : World) :
  Calls Tryz.prog 40 #[O ι fr, O ι 8, γ #[O ι i, .float .f64 f, .float .f64 g]] w fun e w' => e = .returned (γ #[O ι 0, .float .f64 (floatOfInt .f64 i), .float .f64 0]) ∧ Ext w w' := by
 have x0 : Ext w (w.alloc (χ #[O ι i, .float .f64 f, .float .f64 g] 47)) := (Ext.refl w).alloc _ _
 have x1 : Ext (w.alloc (χ #[O ι i, .float .f64 f, .float .f64 g] 47)) ((w.alloc (χ #[O ι i, .float .f64 f, .float .f64 g] 47)).alloc (χ #[O ι 0, .float .f64 0, .float .f64 0] 47)) := (Ext.refl _).alloc _ _
 have X0 := hide (x0.trans x1)
 have n0 := fun j => zg w #[O ι i, .float .f64 f, .float .f64 g] 47 w.heap.size rfl j
 have n1 := fun j => zg (w.alloc (χ #[O ι i, .float .f64 f, .float .f64 g] 47)) #[O ι 0, .float .f64 0, .float .f64 0] 47 (w.heap.size + 1) (by simp) j
 have k0 := x1.box (n0 0)
 have k1 := x1.box (n0 1)
 have k2 := x1.box (n0 2)
 have m0 := n1 0
 have m1 := n1 1
 have m2 := n1 2
 simp only [List.getElem?_toArray, List.getElem?_cons_zero, List.getElem?_cons_succ] at m0 m1 m2
 clear n0 n1 x0 x1
 have hkt : skindL 8 = 2 := by decide
 have hval := hide (fun W => zf1 fr i f g hx hy W)
 have hdt : isDtB 8 = true := by decide
 go_enter Tryz.func40, Tryz.ntmps40
 go_wp2_with fail
 generalize ((w.alloc (χ #[O ι i, .float .f64 f, .float .f64 g] 47)).alloc (χ #[O ι 0, .float .f64 0, .float .f64 0] 47)) = W0 at *
 refine (hval.out _).mono ?_
 rintro e w1 ⟨rfl, x1⟩
 rw [hv0]
 have c0 := x1.box k0
 have c1 := x1.box k1
 have c2 := x1.box k2
 have d0 := x1.box m0
 have d1 := x1.box m1
 have d2 := x1.box m2
 have HX := hide (X0.out.trans x1)
 have fz := fun (q : Nat) => HX.out.unfrozen (b := w.heap.size + 1) (by omega) q
 have hf := fz 0
 have hf1 := fz 1
 have hf2 := fz 2
 clear x1 k0 k1 k2 m0 m1 m2 X0 hval fz
 go_wp2_with (first | (go_at_call 55; refine (zk _ _).mono ?_; rintro e w' ⟨rfl, rfl⟩; rw [hdt]) | (go_at_call 71; refine (zo _ _).mono ?_; rintro e w' ⟨rfl, rfl⟩; first | rw [hkf] | rw [hkt]) | (go_at_call 74; refine (zl1 _ _).mono ?_; rintro e w' ⟨rfl, rfl⟩))
 refine bodyPost_ret (v := γ #[O ι 0, .float .f64 (floatOfInt .f64 i), .float .f64 0]) (by simp [results, Tryz.results40, go_sem, d0, d1, d2]) rfl ⟨rfl, ?_⟩
 exact ((HX.out.setCell (p := ⟨w.heap.size + 1, 0, none⟩) (by show _ ≤ w.heap.size + 1; omega) _).setCell (p := ⟨w.heap.size + 1, 1, none⟩) (by show _ ≤ w.heap.size + 1; omega) _).setCell (p := ⟨w.heap.size + 1, 2, none⟩) (by show _ ≤ w.heap.size + 1; omega) _
theorem zo22 (fr i : Int) (f g : Nat) (hi : I64 i) (hx : B64 f) (hy : B64 g) (hv0 : validB fr i f g = true) (hkf : skindL fr = 1) (w : World) :
  Calls Tryz.prog 40 #[O ι fr, O ι 8, γ #[O ι i, .float .f64 f, .float .f64 g]] w fun e w' => e = .returned (γ #[O ι 0, .float .f64 (floatOfInt .f64 i), .float .f64 0]) ∧ Ext w w' := by
 have x0 : Ext w (w.alloc (χ #[O ι i, .float .f64 f, .float .f64 g] 47)) := (Ext.refl w).alloc _ _
 have x1 : Ext (w.alloc (χ #[O ι i, .float .f64 f, .float .f64 g] 47)) ((w.alloc (χ #[O ι i, .float .f64 f, .float .f64 g] 47)).alloc (χ #[O ι 0, .float .f64 0, .float .f64 0] 47)) := (Ext.refl _).alloc _ _
 have X0 := hide (x0.trans x1)
 have n0 := fun j => zg w #[O ι i, .float .f64 f, .float .f64 g] 47 w.heap.size rfl j
 have n1 := fun j => zg (w.alloc (χ #[O ι i, .float .f64 f, .float .f64 g] 47)) #[O ι 0, .float .f64 0, .float .f64 0] 47 (w.heap.size + 1) (by simp) j
 have k0 := x1.box (n0 0)
 have k1 := x1.box (n0 1)
 have k2 := x1.box (n0 2)
 have m0 := n1 0
 have m1 := n1 1
 have m2 := n1 2
 simp only [List.getElem?_toArray, List.getElem?_cons_zero, List.getElem?_cons_succ] at m0 m1 m2
 clear n0 n1 x0 x1
 have hkt : skindL 8 = 2 := by decide
 have hval := hide (fun W => zf1 fr i f g hx hy W)
 have hdt : isDtB 8 = true := by decide
 go_enter Tryz.func40, Tryz.ntmps40
 go_wp2_with fail
 generalize ((w.alloc (χ #[O ι i, .float .f64 f, .float .f64 g] 47)).alloc (χ #[O ι 0, .float .f64 0, .float .f64 0] 47)) = W0 at *
 refine (hval.out _).mono ?_
 rintro e w1 ⟨rfl, x1⟩
 rw [hv0]
 have c0 := x1.box k0
 have c1 := x1.box k1
 have c2 := x1.box k2
 have d0 := x1.box m0
 have d1 := x1.box m1
 have d2 := x1.box m2
 have HX := hide (X0.out.trans x1)
 have fz := fun (q : Nat) => HX.out.unfrozen (b := w.heap.size + 1) (by omega) q
 have hf := fz 0
 have hf1 := fz 1
 have hf2 := fz 2
 clear x1 k0 k1 k2 m0 m1 m2 X0 hval fz
 go_wp2_with (first | (go_at_call 55; refine (zk _ _).mono ?_; rintro e w' ⟨rfl, rfl⟩; rw [hdt]) | (go_at_call 71; refine (zo _ _).mono ?_; rintro e w' ⟨rfl, rfl⟩; first | rw [hkf] | rw [hkt]) | (go_at_call 74; refine (zl1 _ _).mono ?_; rintro e w' ⟨rfl, rfl⟩))
 refine bodyPost_ret (v := γ #[O ι 0, .float .f64 (floatOfInt .f64 i), .float .f64 0]) (by simp [results, Tryz.results40, go_sem, d0, d1, d2]) rfl ⟨rfl, ?_⟩
 exact ((HX.out.setCell (p := ⟨w.heap.size + 1, 0, none⟩) (by show _ ≤ w.heap.size + 1; omega) _).setCell (p := ⟨w.heap.size + 1, 1, none⟩) (by show _ ≤ w.heap.size + 1; omega) _).setCell (p := ⟨w.heap.size + 1, 2, none⟩) (by show _ ≤ w.heap.size + 1; omega) _
theorem zn22 (fr i : Int) (f g : Nat) (hi : I64 i) (hx : B64 f) (hy : B64 g) (hv0 : validB fr i f g = true) (hkf : skindL fr = 2) (w : World) :
  Calls Tryz.prog 40 #[O ι fr, O ι 8, γ #[O ι i, .float .f64 f, .float .f64 g]] w fun e w' => e = .returned (γ #[O ι 0, .float .f64 f, .float .f64 0]) ∧ Ext w w' := by
 have x0 : Ext w (w.alloc (χ #[O ι i, .float .f64 f, .float .f64 g] 47)) := (Ext.refl w).alloc _ _
 have x1 : Ext (w.alloc (χ #[O ι i, .float .f64 f, .float .f64 g] 47)) ((w.alloc (χ #[O ι i, .float .f64 f, .float .f64 g] 47)).alloc (χ #[O ι 0, .float .f64 0, .float .f64 0] 47)) := (Ext.refl _).alloc _ _
 have X0 := hide (x0.trans x1)
 have n0 := fun j => zg w #[O ι i, .float .f64 f, .float .f64 g] 47 w.heap.size rfl j
 have n1 := fun j => zg (w.alloc (χ #[O ι i, .float .f64 f, .float .f64 g] 47)) #[O ι 0, .float .f64 0, .float .f64 0] 47 (w.heap.size + 1) (by simp) j
 have k0 := x1.box (n0 0)
 have k1 := x1.box (n0 1)
 have k2 := x1.box (n0 2)
 have m0 := n1 0
 have m1 := n1 1
 have m2 := n1 2
 simp only [List.getElem?_toArray, List.getElem?_cons_zero, List.getElem?_cons_succ] at m0 m1 m2
 clear n0 n1 x0 x1
 have hkt : skindL 8 = 2 := by decide
 have hval := hide (fun W => zf1 fr i f g hx hy W)
 have hdt : isDtB 8 = true := by decide
 go_enter Tryz.func40, Tryz.ntmps40
 go_wp2_with fail
 generalize ((w.alloc (χ #[O ι i, .float .f64 f, .float .f64 g] 47)).alloc (χ #[O ι 0, .float .f64 0, .float .f64 0] 47)) = W0 at *
 refine (hval.out _).mono ?_
 rintro e w1 ⟨rfl, x1⟩
 rw [hv0]
 have c0 := x1.box k0
 have c1 := x1.box k1
 have c2 := x1.box k2
 have d0 := x1.box m0
 have d1 := x1.box m1
 have d2 := x1.box m2
 have HX := hide (X0.out.trans x1)
 have fz := fun (q : Nat) => HX.out.unfrozen (b := w.heap.size + 1) (by omega) q
 have hf := fz 0
 have hf1 := fz 1
 have hf2 := fz 2
 clear x1 k0 k1 k2 m0 m1 m2 X0 hval fz
 go_wp2_with (first | (go_at_call 55; refine (zk _ _).mono ?_; rintro e w' ⟨rfl, rfl⟩; rw [hdt]) | (go_at_call 71; refine (zo _ _).mono ?_; rintro e w' ⟨rfl, rfl⟩; first | rw [hkf] | rw [hkt]) | (go_at_call 74; refine (zl1 _ _).mono ?_; rintro e w' ⟨rfl, rfl⟩))
 refine bodyPost_ret (v := γ #[O ι 0, .float .f64 f, .float .f64 0]) (by simp [results, Tryz.results40, go_sem, d0, d1, d2]) rfl ⟨rfl, ?_⟩
 exact ((HX.out.setCell (p := ⟨w.heap.size + 1, 0, none⟩) (by show _ ≤ w.heap.size + 1; omega) _).setCell (p := ⟨w.heap.size + 1, 1, none⟩) (by show _ ≤ w.heap.size + 1; omega) _).setCell (p := ⟨w.heap.size + 1, 2, none⟩) (by show _ ≤ w.heap.size + 1; omega) _
theorem zm22 (fr i : Int) (f g : Nat) (hi : I64 i) (hx : B64 f) (hy : B64 g) (hv0 : validB fr i f g = true) (hkf : skindL fr = 3) (w : World) :
  Calls Tryz.prog 40 #[O ι fr, O ι 8, γ #[O ι i, .float .f64 f, .float .f64 g]] w fun e w' => e = .returned (γ #[O ι 0, .float .f64 f, .float .f64 0]) ∧ Ext w w' := by
 have x0 : Ext w (w.alloc (χ #[O ι i, .float .f64 f, .float .f64 g] 47)) := (Ext.refl w).alloc _ _
 have x1 : Ext (w.alloc (χ #[O ι i, .float .f64 f, .float .f64 g] 47)) ((w.alloc (χ #[O ι i, .float .f64 f, .float .f64 g] 47)).alloc (χ #[O ι 0, .float .f64 0, .float .f64 0] 47)) := (Ext.refl _).alloc _ _
 have X0 := hide (x0.trans x1)
 have n0 := fun j => zg w #[O ι i, .float .f64 f, .float .f64 g] 47 w.heap.size rfl j
 have n1 := fun j => zg (w.alloc (χ #[O ι i, .float .f64 f, .float .f64 g] 47)) #[O ι 0, .float .f64 0, .float .f64 0] 47 (w.heap.size + 1) (by simp) j
 have k0 := x1.box (n0 0)
 have k1 := x1.box (n0 1)
 have k2 := x1.box (n0 2)
 have m0 := n1 0
 have m1 := n1 1
 have m2 := n1 2
 simp only [List.getElem?_toArray, List.getElem?_cons_zero, List.getElem?_cons_succ] at m0 m1 m2
 clear n0 n1 x0 x1
 have hkt : skindL 8 = 2 := by decide
 have hval := hide (fun W => zf1 fr i f g hx hy W)
 have hdt : isDtB 8 = true := by decide
 go_enter Tryz.func40, Tryz.ntmps40
 go_wp2_with fail
 generalize ((w.alloc (χ #[O ι i, .float .f64 f, .float .f64 g] 47)).alloc (χ #[O ι 0, .float .f64 0, .float .f64 0] 47)) = W0 at *
 refine (hval.out _).mono ?_
 rintro e w1 ⟨rfl, x1⟩
 rw [hv0]
 have c0 := x1.box k0
 have c1 := x1.box k1
 have c2 := x1.box k2
 have d0 := x1.box m0
 have d1 := x1.box m1
 have d2 := x1.box m2
 have HX := hide (X0.out.trans x1)
 have fz := fun (q : Nat) => HX.out.unfrozen (b := w.heap.size + 1) (by omega) q
 have hf := fz 0
 have hf1 := fz 1
 have hf2 := fz 2
 clear x1 k0 k1 k2 m0 m1 m2 X0 hval fz
 go_wp2_with (first | (go_at_call 55; refine (zk _ _).mono ?_; rintro e w' ⟨rfl, rfl⟩; rw [hdt]) | (go_at_call 71; refine (zo _ _).mono ?_; rintro e w' ⟨rfl, rfl⟩; first | rw [hkf] | rw [hkt]) | (go_at_call 74; refine (zl1 _ _).mono ?_; rintro e w' ⟨rfl, rfl⟩))
 refine bodyPost_ret (v := γ #[O ι 0, .float .f64 f, .float .f64 0]) (by simp [results, Tryz.results40, go_sem, d0, d1, d2]) rfl ⟨rfl, ?_⟩
 exact ((HX.out.setCell (p := ⟨w.heap.size + 1, 0, none⟩) (by show _ ≤ w.heap.size + 1; omega) _).setCell (p := ⟨w.heap.size + 1, 1, none⟩) (by show _ ≤ w.heap.size + 1; omega) _).setCell (p := ⟨w.heap.size + 1, 2, none⟩) (by show _ ≤ w.heap.size + 1; omega) _
theorem zz22 (fr i : Int) (f g : Nat) (hi : I64 i) (hx : B64 f) (hy : B64 g) (hv0 : validB fr i f g = false) (w : World) :
  Calls Tryz.prog 40 #[O ι fr, O ι 9, γ #[O ι i, .float .f64 f, .float .f64 g]] w fun e w' => e = .returned (γ #[O ι 0, .float .f64 0, .float .f64 0]) ∧ Ext w w' := by
 have x0 : Ext w (w.alloc (χ #[O ι i, .float .f64 f, .float .f64 g] 47)) := (Ext.refl w).alloc _ _
 have x1 : Ext (w.alloc (χ #[O ι i, .float .f64 f, .float .f64 g] 47)) ((w.alloc (χ #[O ι i, .float .f64 f, .float .f64 g] 47)).alloc (χ #[O ι 0, .float .f64 0, .float .f64 0] 47)) := (Ext.refl _).alloc _ _
 have X0 := hide (x0.trans x1)
 have n0 := fun j => zg w #[O ι i, .float .f64 f, .float .f64 g] 47 w.heap.size rfl j
 have n1 := fun j => zg (w.alloc (χ #[O ι i, .float .f64 f, .float .f64 g] 47)) #[O ι 0, .float .f64 0, .float .f64 0] 47 (w.heap.size + 1) (by simp) j
 have k0 := x1.box (n0 0)
 have k1 := x1.box (n0 1)
 have k2 := x1.box (n0 2)
 have m0 := n1 0
 have m1 := n1 1
 have m2 := n1 2
 simp only [List.getElem?_toArray, List.getElem?_cons_zero, List.getElem?_cons_succ] at m0 m1 m2
 clear n0 n1 x0 x1
 have hkt : skindL 9 = 3 := by decide
 have hval := hide (fun W => zf1 fr i f g hx hy W)
 have hdt : isDtB 9 = true := by decide
 go_enter Tryz.func40, Tryz.ntmps40
 go_wp2_with fail
 generalize ((w.alloc (χ #[O ι i, .float .f64 f, .float .f64 g] 47)).alloc (χ #[O ι 0, .float .f64 0, .float .f64 0] 47)) = W0 at *
 refine (hval.out _).mono ?_
 rintro e w1 ⟨rfl, x1⟩
 rw [hv0]
 have c0 := x1.box k0
 have c1 := x1.box k1
 have c2 := x1.box k2
 have d0 := x1.box m0
 have d1 := x1.box m1
 have d2 := x1.box m2
 have HX := hide (X0.out.trans x1)
 have fz := fun (q : Nat) => HX.out.unfrozen (b := w.heap.size + 1) (by omega) q
 have hf := fz 0
 have hf1 := fz 1
 have hf2 := fz 2
 clear x1 k0 k1 k2 m0 m1 m2 X0 hval fz
 go_wp2_with (first | (go_at_call 55; refine (zk _ _).mono ?_; rintro e w' ⟨rfl, rfl⟩; rw [hdt]) | (go_at_call 71; refine (zo _ _).mono ?_; rintro e w' ⟨rfl, rfl⟩; first |  rw [hkt]) | (go_at_call 74; refine (zl1 _ _).mono ?_; rintro e w' ⟨rfl, rfl⟩))
 refine bodyPost_ret (v := γ #[O ι 0, .float .f64 0, .float .f64 0]) (by simp [results, Tryz.results40, go_sem, d0, d1, d2]) rfl ⟨rfl, ?_⟩
 exact ((HX.out.setCell (p := ⟨w.heap.size + 1, 0, none⟩) (by show _ ≤ w.heap.size + 1; omega) _).setCell (p := ⟨w.heap.size + 1, 1, none⟩) (by show _ ≤ w.heap.size + 1; omega) _).setCell (p := ⟨w.heap.size + 1, 2, none⟩) (by show _ ≤ w.heap.size + 1; omega) _
theorem zl22 (fr i : Int) (f g : Nat) (hi : I64 i) (hx : B64 f) (hy : B64 g) (hv0 : validB fr i f g = true) (hkf : skindL fr = 0) (w : World) :
  Calls Tryz.prog 40 #[O ι fr, O ι 9, γ #[O ι i, .float .f64 f, .float .f64 g]] w fun e w' => e = .returned (γ #[O ι 0, .float .f64 (floatOfInt .f64 i), .float .f64 0]) ∧ Ext w w' := by
 have x0 : Ext w (w.alloc (χ #[O ι i, .float .f64 f, .float .f64 g] 47)) := (Ext.refl w).alloc _ _
 have x1 : Ext (w.alloc (χ #[O ι i, .float .f64 f, .float .f64 g] 47)) ((w.alloc (χ #[O ι i, .float .f64 f, .float .f64 g] 47)).alloc (χ #[O ι 0, .float .f64 0, .float .f64 0] 47)) := (Ext.refl _).alloc _ _
 have X0 := hide (x0.trans x1)
 have n0 := fun j => zg w #[O ι i, .float .f64 f, .float .f64 g] 47 w.heap.size rfl j
 have n1 := fun j => zg (w.alloc (χ #[O ι i, .float .f64 f, .float .f64 g] 47)) #[O ι 0, .float .f64 0, .float .f64 0] 47 (w.heap.size + 1) (by simp) j
 have k0 := x1.box (n0 0)
 have k1 := x1.box (n0 1)
 have k2 := x1.box (n0 2)
 have m0 := n1 0
 have m1 := n1 1
 have m2 := n1 2
 simp only [List.getElem?_toArray, List.getElem?_cons_zero, List.getElem?_cons_succ] at m0 m1 m2
 clear n0 n1 x0 x1
 have hkt : skindL 9 = 3 := by decide
 have hval := hide (fun W => zf1 fr i f g hx hy W)
 have hdt : isDtB 9 = true := by decide
 go_enter Tryz.func40, Tryz.ntmps40
 go_wp2_with fail
 generalize ((w.alloc (χ #[O ι i, .float .f64 f, .float .f64 g] 47)).alloc (χ #[O ι 0, .float .f64 0, .float .f64 0] 47)) = W0 at *
 refine (hval.out _).mono ?_
 rintro e w1 ⟨rfl, x1⟩
 rw [hv0]
 have c0 := x1.box k0
 have c1 := x1.box k1
 have c2 := x1.box k2
 have d0 := x1.box m0
 have d1 := x1.box m1
 have d2 := x1.box m2
 have HX := hide (X0.out.trans x1)
 have fz := fun (q : Nat) => HX.out.unfrozen (b := w.heap.size + 1) (by omega) q
 have hf := fz 0
 have hf1 := fz 1
 have hf2 := fz 2
 clear x1 k0 k1 k2 m0 m1 m2 X0 hval fz
 go_wp2_with (first | (go_at_call 55; refine (zk _ _).mono ?_; rintro e w' ⟨rfl, rfl⟩; rw [hdt]) | (go_at_call 71; refine (zo _ _).mono ?_; rintro e w' ⟨rfl, rfl⟩; first | rw [hkf] | rw [hkt]) | (go_at_call 74; refine (zl1 _ _).mono ?_; rintro e w' ⟨rfl, rfl⟩))
 refine bodyPost_ret (v := γ #[O ι 0, .float .f64 (floatOfInt .f64 i), .float .f64 0]) (by simp [results, Tryz.results40, go_sem, d0, d1, d2]) rfl ⟨rfl, ?_⟩
 exact ((HX.out.setCell (p := ⟨w.heap.size + 1, 0, none⟩) (by show _ ≤ w.heap.size + 1; omega) _).setCell (p := ⟨w.heap.size + 1, 1, none⟩) (by show _ ≤ w.heap.size + 1; omega) _).setCell (p := ⟨w.heap.size + 1, 2, none⟩) (by show _ ≤ w.heap.size + 1; omega) _
theorem zk22 (fr i : Int) (f g : Nat) (hi : I64 i) (hx : B64 f) (hy : B64 g) (hv0 : validB fr i f g = true) (hkf : skindL fr = 1) (w : World) :
  Calls Tryz.prog 40 #[O ι fr, O ι 9, γ #[O ι i, .float .f64 f, .float .f64 g]] w fun e w' => e = .returned (γ #[O ι 0, .float .f64 (floatOfInt .f64 i), .float .f64 0]) ∧ Ext w w' := by
 have x0 : Ext w (w.alloc (χ #[O ι i, .float .f64 f, .float .f64 g] 47)) := (Ext.refl w).alloc _ _
 have x1 : Ext (w.alloc (χ #[O ι i, .float .f64 f, .float .f64 g] 47)) ((w.alloc (χ #[O ι i, .float .f64 f, .float .f64 g] 47)).alloc (χ #[O ι 0, .float .f64 0, .float .f64 0] 47)) := (Ext.refl _).alloc _ _
 have X0 := hide (x0.trans x1)
 have n0 := fun j => zg w #[O ι i, .float .f64 f, .float .f64 g] 47 w.heap.size rfl j
 have n1 := fun j => zg (w.alloc (χ #[O ι i, .float .f64 f, .float .f64 g] 47)) #[O ι 0, .float .f64 0, .float .f64 0] 47 (w.heap.size + 1) (by simp) j
 have k0 := x1.box (n0 0)
 have k1 := x1.box (n0 1)
 have k2 := x1.box (n0 2)
 have m0 := n1 0
 have m1 := n1 1
 have m2 := n1 2
 simp only [List.getElem?_toArray, List.getElem?_cons_zero, List.getElem?_cons_succ] at m0 m1 m2
 clear n0 n1 x0 x1
 have hkt : skindL 9 = 3 := by decide
 have hval := hide (fun W => zf1 fr i f g hx hy W)
 have hdt : isDtB 9 = true := by decide
 go_enter Tryz.func40, Tryz.ntmps40
 go_wp2_with fail
 generalize ((w.alloc (χ #[O ι i, .float .f64 f, .float .f64 g] 47)).alloc (χ #[O ι 0, .float .f64 0, .float .f64 0] 47)) = W0 at *
 refine (hval.out _).mono ?_
 rintro e w1 ⟨rfl, x1⟩
 rw [hv0]
 have c0 := x1.box k0
 have c1 := x1.box k1
 have c2 := x1.box k2
 have d0 := x1.box m0
 have d1 := x1.box m1
 have d2 := x1.box m2
 have HX := hide (X0.out.trans x1)
 have fz := fun (q : Nat) => HX.out.unfrozen (b := w.heap.size + 1) (by omega) q
 have hf := fz 0
 have hf1 := fz 1
 have hf2 := fz 2
 clear x1 k0 k1 k2 m0 m1 m2 X0 hval fz
 go_wp2_with (first | (go_at_call 55; refine (zk _ _).mono ?_; rintro e w' ⟨rfl, rfl⟩; rw [hdt]) | (go_at_call 71; refine (zo _ _).mono ?_; rintro e w' ⟨rfl, rfl⟩; first | rw [hkf] | rw [hkt]) | (go_at_call 74; refine (zl1 _ _).mono ?_; rintro e w' ⟨rfl, rfl⟩))
 refine bodyPost_ret (v := γ #[O ι 0, .float .f64 (floatOfInt .f64 i), .float .f64 0]) (by simp [results, Tryz.results40, go_sem, d0, d1, d2]) rfl ⟨rfl, ?_⟩
 exact ((HX.out.setCell (p := ⟨w.heap.size + 1, 0, none⟩) (by show _ ≤ w.heap.size + 1; omega) _).setCell (p := ⟨w.heap.size + 1, 1, none⟩) (by show _ ≤ w.heap.size + 1; omega) _).setCell (p := ⟨w.heap.size + 1, 2, none⟩) (by show _ ≤ w.heap.size + 1; omega) _
theorem zj22 (fr i : Int) (f g : Nat) (hi : I64 i) (hx : B64 f) (hy : B64 g) (hv0 : validB fr i f g = true) (hkf : skindL fr = 2) (w : World) :
  Calls Tryz.prog 40 #[O ι fr, O ι 9, γ #[O ι i, .float .f64 f, .float .f64 g]] w fun e w' => e = .returned (γ #[O ι 0, .float .f64 f, .float .f64 g]) ∧ Ext w w' := by
 have x0 : Ext w (w.alloc (χ #[O ι i, .float .f64 f, .float .f64 g] 47)) := (Ext.refl w).alloc _ _
 have x1 : Ext (w.alloc (χ #[O ι i, .float .f64 f, .float .f64 g] 47)) ((w.alloc (χ #[O ι i, .float .f64 f, .float .f64 g] 47)).alloc (χ #[O ι 0, .float .f64 0, .float .f64 0] 47)) := (Ext.refl _).alloc _ _
 have X0 := hide (x0.trans x1)
 have n0 := fun j => zg w #[O ι i, .float .f64 f, .float .f64 g] 47 w.heap.size rfl j
 have n1 := fun j => zg (w.alloc (χ #[O ι i, .float .f64 f, .float .f64 g] 47)) #[O ι 0, .float .f64 0, .float .f64 0] 47 (w.heap.size + 1) (by simp) j
 have k0 := x1.box (n0 0)
 have k1 := x1.box (n0 1)
 have k2 := x1.box (n0 2)
 have m0 := n1 0
 have m1 := n1 1
 have m2 := n1 2
 simp only [List.getElem?_toArray, List.getElem?_cons_zero, List.getElem?_cons_succ] at m0 m1 m2
 clear n0 n1 x0 x1
 have hkt : skindL 9 = 3 := by decide
 have hval := hide (fun W => zf1 fr i f g hx hy W)
 have hdt : isDtB 9 = true := by decide
 go_enter Tryz.func40, Tryz.ntmps40
 go_wp2_with fail
 generalize ((w.alloc (χ #[O ι i, .float .f64 f, .float .f64 g] 47)).alloc (χ #[O ι 0, .float .f64 0, .float .f64 0] 47)) = W0 at *
 refine (hval.out _).mono ?_
 rintro e w1 ⟨rfl, x1⟩
 rw [hv0]
 have c0 := x1.box k0
 have c1 := x1.box k1
 have c2 := x1.box k2
 have d0 := x1.box m0
 have d1 := x1.box m1
 have d2 := x1.box m2
 have HX := hide (X0.out.trans x1)
 have fz := fun (q : Nat) => HX.out.unfrozen (b := w.heap.size + 1) (by omega) q
 have hf := fz 0
 have hf1 := fz 1
 have hf2 := fz 2
 clear x1 k0 k1 k2 m0 m1 m2 X0 hval fz
 go_wp2_with (first | (go_at_call 55; refine (zk _ _).mono ?_; rintro e w' ⟨rfl, rfl⟩; rw [hdt]) | (go_at_call 71; refine (zo _ _).mono ?_; rintro e w' ⟨rfl, rfl⟩; first | rw [hkf] | rw [hkt]) | (go_at_call 74; refine (zl1 _ _).mono ?_; rintro e w' ⟨rfl, rfl⟩))
 refine bodyPost_ret (v := γ #[O ι 0, .float .f64 f, .float .f64 g]) (by simp [results, Tryz.results40, go_sem, d0, d1, d2]) rfl ⟨rfl, ?_⟩
 exact ((HX.out.setCell (p := ⟨w.heap.size + 1, 0, none⟩) (by show _ ≤ w.heap.size + 1; omega) _).setCell (p := ⟨w.heap.size + 1, 1, none⟩) (by show _ ≤ w.heap.size + 1; omega) _).setCell (p := ⟨w.heap.size + 1, 2, none⟩) (by show _ ≤ w.heap.size + 1; omega) _
theorem zi22 (fr i : Int) (f g : Nat) (hi : I64 i) (hx : B64 f) (hy : B64 g) (hv0 : validB fr i f g = true) (hkf : skindL fr = 3) (w : World) :
  Calls Tryz.prog 40 #[O ι fr, O ι 9, γ #[O ι i, .float .f64 f, .float .f64 g]] w fun e w' => e = .returned (γ #[O ι 0, .float .f64 f, .float .f64 g]) ∧ Ext w w' := by
 have x0 : Ext w (w.alloc (χ #[O ι i, .float .f64 f, .float .f64 g] 47)) := (Ext.refl w).alloc _ _
 have x1 : Ext (w.alloc (χ #[O ι i, .float .f64 f, .float .f64 g] 47)) ((w.alloc (χ #[O ι i, .float .f64 f, .float .f64 g] 47)).alloc (χ #[O ι 0, .float .f64 0, .float .f64 0] 47)) := (Ext.refl _).alloc _ _
 have X0 := hide (x0.trans x1)
 have n0 := fun j => zg w #[O ι i, .float .f64 f, .float .f64 g] 47 w.heap.size rfl j
 have n1 := fun j => zg (w.alloc (χ #[O ι i, .float .f64 f, .float .f64 g] 47)) #[O ι 0, .float .f64 0, .float .f64 0] 47 (w.heap.size + 1) (by simp) j
 have k0 := x1.box (n0 0)
 have k1 := x1.box (n0 1)
 have k2 := x1.box (n0 2)
 have m0 := n1 0
 have m1 := n1 1
 have m2 := n1 2
 simp only [List.getElem?_toArray, List.getElem?_cons_zero, List.getElem?_cons_succ] at m0 m1 m2
 clear n0 n1 x0 x1
 have hkt : skindL 9 = 3 := by decide
 have hval := hide (fun W => zf1 fr i f g hx hy W)
 have hdt : isDtB 9 = true := by decide
 go_enter Tryz.func40, Tryz.ntmps40
 go_wp2_with fail
 generalize ((w.alloc (χ #[O ι i, .float .f64 f, .float .f64 g] 47)).alloc (χ #[O ι 0, .float .f64 0, .float .f64 0] 47)) = W0 at *
 refine (hval.out _).mono ?_
 rintro e w1 ⟨rfl, x1⟩
 rw [hv0]
 have c0 := x1.box k0
 have c1 := x1.box k1
 have c2 := x1.box k2
 have d0 := x1.box m0
 have d1 := x1.box m1
 have d2 := x1.box m2
 have HX := hide (X0.out.trans x1)
 have fz := fun (q : Nat) => HX.out.unfrozen (b := w.heap.size + 1) (by omega) q
 have hf := fz 0
 have hf1 := fz 1
 have hf2 := fz 2
 clear x1 k0 k1 k2 m0 m1 m2 X0 hval fz
 go_wp2_with (first | (go_at_call 55; refine (zk _ _).mono ?_; rintro e w' ⟨rfl, rfl⟩; rw [hdt]) | (go_at_call 71; refine (zo _ _).mono ?_; rintro e w' ⟨rfl, rfl⟩; first | rw [hkf] | rw [hkt]) | (go_at_call 74; refine (zl1 _ _).mono ?_; rintro e w' ⟨rfl, rfl⟩))
 refine bodyPost_ret (v := γ #[O ι 0, .float .f64 f, .float .f64 g]) (by simp [results, Tryz.results40, go_sem, d0, d1, d2]) rfl ⟨rfl, ?_⟩
 exact ((HX.out.setCell (p := ⟨w.heap.size + 1, 0, none⟩) (by show _ ≤ w.heap.size + 1; omega) _).setCell (p := ⟨w.heap.size + 1, 1, none⟩) (by show _ ≤ w.heap.size + 1; omega) _).setCell (p := ⟨w.heap.size + 1, 2, none⟩) (by show _ ≤ w.heap.size + 1; omega) _
theorem zj21 {fr td i : Int} {f g : Nat} (hto : td = 8 ∨ td = 9) (hi : I64 i) (hx : B64 f) (hy : B64 g) (w : World) :
  Calls Tryz.prog 40 #[O ι fr, O ι td, γ #[O ι i, .float .f64 f, .float .f64 g]] w fun e w' => ∃ (i2 : Int) (f2 g2 : Nat), e = .returned (γ #[O ι i2, .float .f64 f2, .float .f64 g2]) ∧ CellOk i2 f2 g2 ∧ Ext w w' := by
 have z0 : I64 0 := by unfold I64; omega
 have z1 : B64 0 := by unfold B64; omega
 by_cases hv : validB fr i f g = true
 ·have hk : skindL fr = 0 ∨ skindL fr = 1 ∨ skindL fr = 2 ∨ skindL fr = 3 := by unfold skindL; omega
  rcases hto with rfl | rfl <;> rcases hk with hk | hk | hk | hk
  ·refine (zp22 fr i f g hi hx hy hv hk w).mono ?_
   rintro e w' ⟨rfl, x⟩
   exact ⟨_, _, _, rfl, ⟨z0, zt6 _, z1⟩, x⟩
  ·refine (zo22 fr i f g hi hx hy hv hk w).mono ?_
   rintro e w' ⟨rfl, x⟩
   exact ⟨_, _, _, rfl, ⟨z0, zt6 _, z1⟩, x⟩
  ·refine (zn22 fr i f g hi hx hy hv hk w).mono ?_
   rintro e w' ⟨rfl, x⟩
   exact ⟨_, _, _, rfl, ⟨z0, hx, z1⟩, x⟩
  ·refine (zm22 fr i f g hi hx hy hv hk w).mono ?_
   rintro e w' ⟨rfl, x⟩
   exact ⟨_, _, _, rfl, ⟨z0, hx, z1⟩, x⟩
  ·refine (zl22 fr i f g hi hx hy hv hk w).mono ?_
   rintro e w' ⟨rfl, x⟩
   exact ⟨_, _, _, rfl, ⟨z0, zt6 _, z1⟩, x⟩
  ·refine (zk22 fr i f g hi hx hy hv hk w).mono ?_
   rintro e w' ⟨rfl, x⟩
   exact ⟨_, _, _, rfl, ⟨z0, zt6 _, z1⟩, x⟩
  ·refine (zj22 fr i f g hi hx hy hv hk w).mono ?_
   rintro e w' ⟨rfl, x⟩
   exact ⟨_, _, _, rfl, ⟨z0, hx, hy⟩, x⟩
  ·refine (zi22 fr i f g hi hx hy hv hk w).mono ?_
   rintro e w' ⟨rfl, x⟩
   exact ⟨_, _, _, rfl, ⟨z0, hx, hy⟩, x⟩
 ·have hv : validB fr i f g = false := by simpa using hv
  rcases hto with rfl | rfl
  ·refine (za23 fr i f g hi hx hy hv w).mono ?_
   rintro e w' ⟨rfl, x⟩
   exact ⟨_, _, _, rfl, ⟨z0, z1, z1⟩, x⟩
  ·refine (zz22 fr i f g hi hx hy hv w).mono ?_
   rintro e w' ⟨rfl, x⟩
   exact ⟨_, _, _, rfl, ⟨z0, z1, z1⟩, x⟩
end
section
open Go.ChangeShapes Go.RowKit FL
structure TM (w W : World) (H b : Nat) (st : Nat) (sv : Value) (L : List Dst) (vA vB : Value) (off : Int) : Prop where
 sf : SF w W H b
 dh : DH W H sv L
 dg : DG L
 dt : DtOk L
 b3 : Bx W w.heap.size 25 [sv]
 b4 : Bx W (w.heap.size + 1) 30 [O ι st, vA, vB, O ι off]
 b6 : Bx W (w.heap.size + 2) 25 [σ none 0 0]
theorem TM.bel {w W W' : World} {H b st : Nat} {sv vA vB : Value} {L : List Dst} {off : Int} (h : TM w W H b st sv L vA vB off) (x : Bel W W') : TM w W' H b st sv L vA vB off :=
 ⟨h.sf.bel x, h.dh.bel x, h.dg, h.dt, h.b3.bel x, h.b4.bel x, h.b6.bel x⟩
theorem TM.alloc {w W : World} {H b st : Nat} {sv vA vB : Value} {L : List Dst} {off : Int} (h : TM w W H b st sv L vA vB off) (o : Obj) : TM w (W.alloc o) H b st sv L vA vB off := h.bel ((Below.refl W.heap.size W).alloc (Nat.le_refl _) o)
theorem TM.drew {w W : World} {H b st : Nat} {sv vA vB : Value} {L : List Dst} {off : Int} (h : TM w W H b st sv L vA vB off) : TM w W.drew H b st sv L vA vB off := ⟨h.sf.drew, h.dh.drew, h.dg, h.dt, h.b3, h.b4, h.b6⟩
theorem TM.mut {w W W' : World} {H b st : Nat} {sv vA vB : Value} {L : List Dst} {off : Int} (h : TM w W H b st sv L vA vB off) (s : SF w W' H b) (m : Mut b W W') : TM w W' H b st sv L vA vB off := by
 have h1 := h.sf.hb
 have h2 := h.sf.hH
 exact ⟨s, h.dh.mut m h1, h.dg, h.dt, h.b3.mut m (by omega), h.b4.mut m (by omega), h.b6.mut m (by omega)⟩
theorem zh14 (cs : List C3) (i : Nat) (hi : i < cs.length) (c : C3) : ((((flat cs).set (i * 3) (O ι c.1)).set (i * 3 + 1) (.float .f64 c.2.1)).set (i * 3 + 2) (.float .f64 c.2.2)) = flat (cs.set i c) := by
 induction cs generalizing i with
 | nil => simp at hi
 | cons d ds ih =>
  cases i with
  | zero => simp [flat, c3v]
  | succ i =>
   have := ih i (by simpa using hi)
   rw [show (i + 1) * 3 = i * 3 + 1 + 1 + 1 by omega]
   simp only [flat, c3v, List.cons_append, List.nil_append, List.set_cons_succ, List.set_cons_zero] at this ⊢
   rw [this]
theorem CG.set {cs : List C3} (h : CG cs) (i : Nat) {c : C3} (hc : CellOk c.1 c.2.1 c.2.2) : CG (cs.set i c) := fun d hd => by
 rcases List.mem_or_eq_of_mem_set hd with q | q
 ·exact h d q
 ·subst q; exact hc
theorem TM.put {w W : World} {H b st gc cc i : Nat} {sv vA vB : Value} {L : List Dst} {off : Int} {d : Int} {cs : List C3} (h : TM w W H b st sv L vA vB off) (ht : L[st]? = some (d, σ (some ⟨gc, 0, none⟩) cs.length cc, cs)) (hi : i < cs.length) {c : C3} (hc : CellOk c.1 c.2.1 c.2.2) :
  TM w (((W.setCell ⟨gc, i * 3, none⟩ (O ι c.1)).setCell ⟨gc, i * 3 + 1, none⟩ (.float .f64 c.2.1)).setCell ⟨gc, i * 3 + 2, none⟩ (.float .f64 c.2.2)) H b st sv (L.set st (d, σ (some ⟨gc, 0, none⟩) cs.length cc, cs.set i c)) vA vB off := by
 have hm := List.mem_of_getElem? ht
 have r := h.dh.cel st _ ht
 have s1 := r.stored (i * 3) (O ι c.1)
 have s2 := s1.1.stored (i * 3 + 1) (.float .f64 c.2.1)
 have s3 := s2.1.stored (i * 3 + 2) (.float .f64 c.2.2)
 have hgb : W.grownBy (((W.setCell ⟨gc, i * 3, none⟩ (O ι c.1)).setCell ⟨gc, i * 3 + 1, none⟩ (.float .f64 c.2.1)).setCell ⟨gc, i * 3 + 2, none⟩ (.float .f64 c.2.2)) (some gc) := zf6 (zf6 s1.2 s2.2) s3.2
 have hown : (((W.setCell ⟨gc, i * 3, none⟩ (O ι c.1)).setCell ⟨gc, i * 3 + 1, none⟩ (.float .f64 c.2.1)).setCell ⟨gc, i * 3 + 2, none⟩ (.float .f64 c.2.2)).ownsRow H 47 3 (σ (some ⟨gc, 0, none⟩) cs.length cc) (cs.set i c).length (flat (cs.set i c)) := by
  rw [List.length_set, ← zh14 cs i hi c]
  exact s3.1
 exact ⟨h.sf.row (v := σ (some ⟨gc, 0, none⟩) cs.length cc) hgb r (Nat.le_refl _) (Or.inr rfl), h.dh.put ht hown hgb, h.dg.set st ((h.dg.cg _ hm).set i hc) (by have := h.dg.few _ hm; simpa using this), h.dt.set st (by have := h.dt _ hm; exact this), h.b3.gb hgb (h.b3.ne r (by decide)), h.b4.gb hgb (h.b4.ne r (by decide)), h.b6.gb hgb (h.b6.ne r (by decide))⟩
def TameOk (w : World) (H b n : Nat) (e : Ending) (W : World) : Prop := ∃ (sv : Value) (L : List Dst), e = .returned (γ #[sv]) ∧ DH W H sv L ∧ DG L ∧ DtOk L ∧ L.length = n ∧ SF w W H b
theorem TM.fin {w W : World} {H b st : Nat} {sv vA vB : Value} {L : List Dst} {off : Int} (h : TM w W H b st sv L vA vB off) : TameOk w H b L.length (.returned (γ #[sv])) (W.setCell ⟨w.heap.size + 2, 0, none⟩ sv) :=
 ⟨sv, L, rfl, h.dh.box h.b6 (by decide) (by decide), h.dg, h.dt, rfl, h.sf.set (by omega) _ _⟩
theorem TM.setDt {w W : World} {H b st g n cap : Nat} {vA vB : Value} {L : List Dst} {off : Int} {t : Dst} (h : TM w W H b st (σ (some ⟨g, 0, none⟩) n cap) L vA vB off) (ht : L[st]? = some t) {dt : Int} (hd : 1 ≤ dt ∧ dt ≤ 9) :
  TM w (W.setCell ⟨g, st * 2, none⟩ (O ι dt)) H b st (σ (some ⟨g, 0, none⟩) n cap) (L.set st (dt, t.2)) vA vB off := by
 have hm := List.mem_of_getElem? ht
 have hgb : W.grownBy (W.setCell ⟨g, st * 2, none⟩ (O ι dt)) (some g) := zh1 _ _ _ _
 exact ⟨h.sf.row (v := σ (some ⟨g, 0, none⟩) n cap) hgb h.dh.own (Nat.le_refl _) (Or.inl rfl), h.dh.setDt ht dt, h.dg.set st (by have := h.dg.cg _ hm; exact this) (by have := h.dg.few _ hm; exact this), h.dt.set st hd, h.b3.gb hgb (h.b3.ne h.dh.own (by decide)), h.b4.gb hgb (h.b4.ne h.dh.own (by decide)), h.b6.gb hgb (h.b6.ne h.dh.own (by decide))⟩
theorem zs17 {w : World} {H b st : Nat} (hs : SF w w H b) {sv : Value} {L0 : List Dst} (hD : DH w H sv L0) (hG : DG L0) (hO : DtOk L0) (hst : st < L0.length) {sA zp23 : Option Addr} {nA cA nB cB : Nat} {off : Int} :
  Calls Tryz.prog 50 #[γ #[sv], γ #[O ι st, σ sA nA cA, σ zp23 nB cB, O ι off], π (some ⟨b, 0, none⟩)] w fun e W => TameOk w H b L0.length e W := by
 have hbH := hs.hb
 have hHw := hs.hH
 obtain ⟨t0, ht0⟩ : ∃ t0, L0[st]? = some t0 := ⟨_, List.getElem?_eq_getElem hst⟩
 obtain ⟨g, cap, rfl, _, _, _, hg1, hg2⟩ := hD.at ht0
 have hL70 := hG.cnt
 have F0 : Hid (TM w (((w.alloc (χ #[σ (some ⟨g, 0, none⟩) L0.length cap] 25)).alloc (χ #[O ι st, σ sA nA cA, σ zp23 nB cB, O ι off] 30)).alloc (χ #[σ none 0 0] 25)) H b st (σ (some ⟨g, 0, none⟩) L0.length cap) L0 (σ sA nA cA) (σ zp23 nB cB) off) :=
  ⟨((hs.alloc _).alloc _).alloc _, ((hD.alloc _).alloc _).alloc _, hG, hO, ((Bx.new w 25 #[σ (some ⟨g, 0, none⟩) L0.length cap] _ rfl).alloc _).alloc _, (Bx.new (w.alloc (χ #[σ (some ⟨g, 0, none⟩) L0.length cap] 25)) 30 #[O ι st, σ sA nA cA, σ zp23 nB cB, O ι off] _ (by simp)).alloc _, Bx.new ((w.alloc (χ #[σ (some ⟨g, 0, none⟩) L0.length cap] 25)).alloc (χ #[O ι st, σ sA nA cA, σ zp23 nB cB, O ι off] 30)) 25 #[σ none 0 0] _ (by simp)⟩
 have HT0 := hide ht0
 clear hs hD hG hO ht0
 go_enter Tryz.func50, Tryz.ntmps50
 go_wp2_with fail
 generalize ((w.alloc (χ #[σ (some ⟨g, 0, none⟩) L0.length cap] 25)).alloc (χ #[O ι st, σ sA nA cA, σ zp23 nB cB, O ι off] 30)).alloc (χ #[σ none 0 0] 25) = W0 at F0 ⊢
 refine (F0.out.sf.next 3).mono ?_
 rintro e W1 ⟨z1, rfl, _, s1, m1⟩
 have F1 := hide (F0.out.mut s1 m1)
 clear s1 m1 F0
 have c3 := F1.out.b3.cell 0 rfl
 have c60 := F1.out.b6.cell 0 rfl
 have c6f := F1.out.b6.fz 0
 rcases Classical.em (z1 = 0) with hz | hz
 ·subst hz
  go_wp2
  exact bodyPost_ret (v := γ #[σ (some ⟨g, 0, none⟩) L0.length cap]) (by simp [results, Tryz.results50, go_sem, c60]) rfl F1.out.fin
 have dz : (z1 == 0) = false := by simp [hz]
 have hst2 : (st : Int) < (L0.length : Int) := by omega
 have hst0 : (0 : Int) ≤ (st : Int) := Int.natCast_nonneg _
 have c40 := F1.out.b4.cell 0 rfl
 obtain ⟨g', cap', hgg, e0, e1, _, _, _⟩ := F1.out.dh.at HT0.out
 simp only [Value.slice.injEq, Option.some.injEq, Addr.mk.injEq, and_true, true_and] at hgg
 obtain ⟨rfl, rfl⟩ := hgg
 obtain ⟨sa, ca, hv, hva⟩ := zd4 (F1.out.dh.cel st _ HT0.out)
 have hfew := F1.out.dg.few _ (List.mem_of_getElem? HT0.out)
 obtain ⟨d, v, cs⟩ := t0
 simp only at hv e0 e1 hva hfew
 subst hv
 have hw1 := F1.out.b6.lt
 have F2 := hide (F1.out.alloc (χ #[O ι d, σ sa cs.length ca] 41))
 have B7 : Hid (Bx (W1.alloc (χ #[O ι d, σ sa cs.length ca] 41)) W1.heap.size 41 [O ι d, σ sa cs.length ca]) := Bx.new W1 41 #[O ι d, σ sa cs.length ca] _ rfl
 go_wp2_with fail
 generalize hk7 : W1.heap.size = k7 at B7 hw1 ⊢
 generalize W1.alloc (χ #[O ι d, σ sa cs.length ca] 41) = W2 at F2 B7 ⊢
 clear hk7 c3 c60 c6f c40 e0 e1 F1
 refine (F2.out.sf.next 3).mono ?_
 rintro e W3 ⟨z2, rfl, _, s2, m2⟩
 have F3 := hide (F2.out.mut s2 m2)
 have B73 : Hid (Bx W3 k7 41 [O ι d, σ sa cs.length ca]) := B7.out.mut m2 (by omega)
 clear s2 m2 F2 B7
 go_upto_if 22 with fail
 go_cut [8] (fun s8 wx => ∃ dt : Int, s8 = O ι dt ∧ (dt = 8 ∨ dt = 9) ∧ W3 = wx)
 case first =>
  rcases Classical.em (z2 = 0) with hz2 | hz2
  ·subst hz2
   go_wp2
   go_meet
   case rel => exact ⟨9, rfl, Or.inr rfl, rfl⟩
  ·have dz2 : (z2 == 0) = false := by simp [hz2]
   go_wp2
   go_meet
   case rel => exact ⟨8, rfl, Or.inl rfl, rfl⟩
 case rest =>
 obtain ⟨dt, rfl, hdt, rfl⟩ := hcut
 have HDT := hide hdt
 clear hdt
 go_wp2_with fail
 go_loopw [9] (fun i wr => ∃ (k : Nat) (cs2 : List C3), i = O ι k ∧ k ≤ cs.length ∧ cs2.length = cs.length ∧ TM w wr H b st (σ (some ⟨g, 0, none⟩) L0.length cap) (L0.set st (d, σ sa cs2.length ca, cs2)) (σ sA nA cA) (σ zp23 nB cB) off ∧ Bx wr k7 41 [O ι d, σ sa cs.length ca]) (fun i _ => cs.length - (intOf i).toNat)
 case atStart =>
  have e : L0.set st (d, σ sa cs.length ca, cs) = L0 := by
   apply List.ext_getElem?
   intro j
   by_cases hj : st = j
   ·subst hj
    rw [List.getElem?_set_self hst]
    exact HT0.out.symm
   ·rw [List.getElem?_set_ne hj]
  exact ⟨0, cs, rfl, by omega, rfl, by rw [e]; exact F3.out, B73.out⟩
 case round =>
  obtain ⟨k, cs2, rfl, hk, hl2, hF, hB7⟩ := hrel
  obtain ⟨wv, rfl⟩ : ∃ wv, wv = wr := ⟨_, rfl⟩
  have HF := hide hF
  have HB7 := hide hB7
  have HL2 := hide hl2
  clear hF hB7 hl2 F3 B73
  have HT2 : Hid ((L0.set st (d, σ sa cs2.length ca, cs2))[st]? = some (d, σ sa cs2.length ca, cs2)) := by
   show _ = _
   rw [List.getElem?_set, if_pos rfl, if_pos hst]
  have b70 := HB7.out.cell 0 rfl
  have b71 := HB7.out.cell 1 rfl
  have b3c := HF.out.b3.cell 0 rfl
  have b4c := HF.out.b4.cell 0 rfl
  obtain ⟨g', cap', hgg, e0, e1, fz1, _, _⟩ := HF.out.dh.at HT2.out
  simp only [Value.slice.injEq, Option.some.injEq, Addr.mk.injEq, and_true, true_and] at hgg
  obtain ⟨rfl, hll, rfl⟩ := hgg
  clear hll
  simp only at e0 e1
  by_cases hlt : k < cs.length
  ·have hk1 : (k : Int) < (cs.length : Int) := by omega
   have hk0 : (0 : Int) ≤ (k : Int) := Int.natCast_nonneg _
   obtain ⟨gc, rfl, _⟩ := hva (by omega)
   have r47 := HF.out.dh.cel st _ HT2.out
   have hfg := zh4 cs2 k (by have := HL2.out; omega)
   have cx := (r47.cellAt (k * 3) (by have := HL2.out; show _ < cs2.length * 3; omega)).trans hfg.1
   have cy := (r47.cellAt (k * 3 + 1) (by have := HL2.out; show _ < cs2.length * 3; omega)).trans hfg.2.1
   have cz := (r47.cellAt (k * 3 + 2) (by have := HL2.out; show _ < cs2.length * 3; omega)).trans hfg.2.2
   have hcg := (HF.out.dg.cg _ (List.mem_of_getElem? HT2.out)).at k (by have := HL2.out; show k < cs2.length; omega)
   simp only at hcg
   generalize (cs2.getD k k0).1 = X at cx hcg
   generalize (cs2.getD k k0).2.1 = Y at cy hcg
   generalize (cs2.getD k k0).2.2 = Z at cz hcg
   have HCG := hide hcg
   clear r47 hfg hcg fz1
   rw [HL2.out] at e1
   go_wp2_with fail
   have SA : Hid ((fun w' : World => w'.cell? ⟨w.heap.size, 0, none⟩ = some (σ (some ⟨g, 0, none⟩) L0.length cap) ∧ w'.cell? ⟨w.heap.size + 1, 0, none⟩ = some (O ι st) ∧ w'.cell? ⟨g, st * 2 + 1, none⟩ = some (σ (some ⟨gc, 0, none⟩) cs.length ca) ∧ w'.cell? ⟨k7, 0, none⟩ = some (O ι d) ∧ w'.cell? ⟨k7, 1, none⟩ = some (σ (some ⟨gc, 0, none⟩) cs.length ca) ∧ w'.cell? ⟨gc, k * 3, none⟩ = some (O ι X) ∧ w'.cell? ⟨gc, k * 3 + 1, none⟩ = some (.float .f64 Y) ∧ w'.cell? ⟨gc, k * 3 + 2, none⟩ = some (.float .f64 Z)) wv.drew) := ⟨b3c, b4c, e1, b70, b71, cx, cy, cz⟩
   refine zv (S := (fun w' : World => w'.cell? ⟨w.heap.size, 0, none⟩ = some (σ (some ⟨g, 0, none⟩) L0.length cap) ∧ w'.cell? ⟨w.heap.size + 1, 0, none⟩ = some (O ι st) ∧ w'.cell? ⟨g, st * 2 + 1, none⟩ = some (σ (some ⟨gc, 0, none⟩) cs.length ca) ∧ w'.cell? ⟨k7, 0, none⟩ = some (O ι d) ∧ w'.cell? ⟨k7, 1, none⟩ = some (σ (some ⟨gc, 0, none⟩) cs.length ca) ∧ w'.cell? ⟨gc, k * 3, none⟩ = some (O ι X) ∧ w'.cell? ⟨gc, k * 3 + 1, none⟩ = some (.float .f64 Y) ∧ w'.cell? ⟨gc, k * 3 + 2, none⟩ = some (.float .f64 Z))) (late := [18]) (by kernel_rfl) ?_
   refine zd (i := 0) (v := π (some ⟨w.heap.size, 0, none⟩)) rfl (by kernel_rfl) (by kernel_rfl) (fun _ _ _ h => by cases h.1) _ (by kernel_rfl) (by kernel_rfl) (Or.inl ⟨by rfl, ?_⟩) SA.out ?_
   ·rintro w' ⟨z0, z1, z2, z3, z4, z5, z6, z7⟩
    go_simp
   simp only [aP, sT, sZ, sS]
   refine zd (i := 1) (v := σ (some ⟨g, 0, none⟩) L0.length cap) rfl (by kernel_rfl) (by kernel_rfl) (fun _ _ _ h => by cases h.1) _ (by kernel_rfl) (by kernel_rfl) (Or.inl ⟨by rfl, ?_⟩) SA.out ?_
   ·rintro w' ⟨z0, z1, z2, z3, z4, z5, z6, z7⟩
    go_simp
   simp only [aP, sT, sZ, sS]
   refine zd (i := 2) (v := π (some ⟨w.heap.size + 1, 0, none⟩)) rfl (by kernel_rfl) (by kernel_rfl) (fun _ _ _ h => by cases h.1) _ (by kernel_rfl) (by kernel_rfl) (Or.inl ⟨by rfl, ?_⟩) SA.out ?_
   ·rintro w' ⟨z0, z1, z2, z3, z4, z5, z6, z7⟩
    go_simp
   simp only [aP, sT, sZ, sS]
   refine zd (i := 3) (v := O ι st) rfl (by kernel_rfl) (by kernel_rfl) (fun _ _ _ h => by cases h.1) _ (by kernel_rfl) (by kernel_rfl) (Or.inl ⟨by rfl, ?_⟩) SA.out ?_
   ·rintro w' ⟨z0, z1, z2, z3, z4, z5, z6, z7⟩
    go_simp
   simp only [aP, sT, sZ, sS]
   refine zd (i := 4) (v := π (some ⟨g, st * 2, none⟩)) rfl (by kernel_rfl) (by kernel_rfl) (fun _ _ _ h => by cases h.1) _ (by kernel_rfl) (by kernel_rfl) (Or.inl ⟨by rfl, ?_⟩) SA.out ?_
   ·rintro w' ⟨z0, z1, z2, z3, z4, z5, z6, z7⟩
    go_simp
   simp only [aP, sT, sZ, sS]
   refine zd (i := 5) (v := π (some ⟨g, st * 2 + 1, none⟩)) rfl (by kernel_rfl) (by kernel_rfl) (fun _ _ _ h => by cases h.1) _ (by kernel_rfl) (by kernel_rfl) (Or.inl ⟨by rfl, ?_⟩) SA.out ?_
   ·rintro w' ⟨z0, z1, z2, z3, z4, z5, z6, z7⟩
    go_simp
   simp only [aP, sT, sZ, sS]
   refine zd (i := 6) (v := σ (some ⟨gc, 0, none⟩) cs.length ca) rfl (by kernel_rfl) (by kernel_rfl) (fun _ _ _ h => by cases h.1) _ (by kernel_rfl) (by kernel_rfl) (Or.inl ⟨by rfl, ?_⟩) SA.out ?_
   ·rintro w' ⟨z0, z1, z2, z3, z4, z5, z6, z7⟩
    go_simp
   simp only [aP, sT, sZ, sS]
   refine zd (i := 7) (v := O ι k) rfl (by kernel_rfl) (by kernel_rfl) (fun _ _ _ h => by cases h.1) _ (by kernel_rfl) (by kernel_rfl) (Or.inl ⟨by rfl, ?_⟩) SA.out ?_
   ·rintro w' ⟨z0, z1, z2, z3, z4, z5, z6, z7⟩
    go_simp
   simp only [aP, sT, sZ, sS]
   refine zd (i := 8) (v := π (some ⟨k7, 0, none⟩)) rfl (by kernel_rfl) (by kernel_rfl) (fun _ _ _ h => by cases h.1) _ (by kernel_rfl) (by kernel_rfl) (Or.inl ⟨by rfl, ?_⟩) SA.out ?_
   ·rintro w' ⟨z0, z1, z2, z3, z4, z5, z6, z7⟩
    go_simp
   simp only [aP, sT, sZ, sS]
   refine zd (i := 9) (v := O ι d) rfl (by kernel_rfl) (by kernel_rfl) (fun _ _ _ h => by cases h.1) _ (by kernel_rfl) (by kernel_rfl) (Or.inl ⟨by rfl, ?_⟩) SA.out ?_
   ·rintro w' ⟨z0, z1, z2, z3, z4, z5, z6, z7⟩
    go_simp
   simp only [aP, sT, sZ, sS]
   refine zd (i := 10) (v := O ι dt) rfl (by kernel_rfl) (by kernel_rfl) (fun _ _ _ h => by cases h.1) _ (by kernel_rfl) (by kernel_rfl) (Or.inl ⟨by rfl, ?_⟩) SA.out ?_
   ·rintro w' ⟨z0, z1, z2, z3, z4, z5, z6, z7⟩
    go_simp
   simp only [aP, sT, sZ, sS]
   refine zd (i := 11) (v := π (some ⟨k7, 1, none⟩)) rfl (by kernel_rfl) (by kernel_rfl) (fun _ _ _ h => by cases h.1) _ (by kernel_rfl) (by kernel_rfl) (Or.inl ⟨by rfl, ?_⟩) SA.out ?_
   ·rintro w' ⟨z0, z1, z2, z3, z4, z5, z6, z7⟩
    go_simp
   simp only [aP, sT, sZ, sS]
   refine zd (i := 12) (v := σ (some ⟨gc, 0, none⟩) cs.length ca) rfl (by kernel_rfl) (by kernel_rfl) (fun _ _ _ h => by cases h.1) _ (by kernel_rfl) (by kernel_rfl) (Or.inl ⟨by rfl, ?_⟩) SA.out ?_
   ·rintro w' ⟨z0, z1, z2, z3, z4, z5, z6, z7⟩
    go_simp
   simp only [aP, sT, sZ, sS]
   refine zd (i := 13) (v := O ι k) rfl (by kernel_rfl) (by kernel_rfl) (fun _ _ _ h => by cases h.1) _ (by kernel_rfl) (by kernel_rfl) (Or.inl ⟨by rfl, ?_⟩) SA.out ?_
   ·rintro w' ⟨z0, z1, z2, z3, z4, z5, z6, z7⟩
    go_simp
   simp only [aP, sT, sZ, sS]
   refine zd (i := 14) (v := π (some ⟨gc, k * 3, none⟩)) rfl (by kernel_rfl) (by kernel_rfl) (fun _ _ _ h => by cases h.1) _ (by kernel_rfl) (by kernel_rfl) (Or.inl ⟨by rfl, ?_⟩) SA.out ?_
   ·rintro w' ⟨z0, z1, z2, z3, z4, z5, z6, z7⟩
    go_simp
   simp only [aP, sT, sZ, sS]
   refine zd (i := 15) (v := γ #[O ι X, .float .f64 Y, .float .f64 Z]) rfl (by kernel_rfl) (by kernel_rfl) (fun _ _ _ h => by cases h.1) _ (by kernel_rfl) (by kernel_rfl) (Or.inl ⟨by rfl, ?_⟩) SA.out ?_
   ·rintro w' ⟨z0, z1, z2, z3, z4, z5, z6, z7⟩
    go_simp
   simp only [aP, sT, sZ, sS]
   refine ze (i := 16) (by kernel_rfl) rfl (fun K hK => ?_)
   go_simp
   refine (zj21 HDT.out HCG.out.1 HCG.out.2.1 HCG.out.2.2 _).mono ?_
   rintro e t1 ⟨X2, Y2, Z2, rfl, hok, x5⟩
   have HF1 := hide (HF.out.drew.bel x5.bl)
   have HB71 := hide ((HB7.out.drew).bel x5.bl)
   have S1 : Hid ((fun w' : World => w'.cell? ⟨w.heap.size, 0, none⟩ = some (σ (some ⟨g, 0, none⟩) L0.length cap) ∧ w'.cell? ⟨w.heap.size + 1, 0, none⟩ = some (O ι st) ∧ w'.cell? ⟨g, st * 2 + 1, none⟩ = some (σ (some ⟨gc, 0, none⟩) cs.length ca) ∧ w'.cell? ⟨k7, 0, none⟩ = some (O ι d) ∧ w'.cell? ⟨k7, 1, none⟩ = some (σ (some ⟨gc, 0, none⟩) cs.length ca) ∧ w'.cell? ⟨gc, k * 3, none⟩ = some (O ι X) ∧ w'.cell? ⟨gc, k * 3 + 1, none⟩ = some (.float .f64 Y) ∧ w'.cell? ⟨gc, k * 3 + 2, none⟩ = some (.float .f64 Z)) t1) := ⟨x5.box b3c, x5.box b4c, x5.box e1, x5.box b70, x5.box b71, x5.box cx, x5.box cy, x5.box cz⟩
   refine hK.out _ _ (fun _ => S1.out) ?_
   clear hK K
   try simp only [aP, sT, sZ, sS]
   have cx1 := x5.box (show wv.drew.cell? _ = _ from cx)
   have cy1 := x5.box (show wv.drew.cell? _ = _ from cy)
   have cz1 := x5.box (show wv.drew.cell? _ = _ from cz)
   have hfz : ∀ o, t1.frozen? ⟨gc, o, none⟩ = false := fun o => (HF1.out.dh.cel st _ HT2.out).frozenAt o
   have HP := hide (HF1.out.put (c := (X2, Y2, Z2)) (i := k) HT2.out (by have := HL2.out; omega) hok)
   have HBP : Hid (Bx (((t1.setCell ⟨gc, k * 3, none⟩ (O ι X2)).setCell ⟨gc, k * 3 + 1, none⟩ (.float .f64 Y2)).setCell ⟨gc, k * 3 + 2, none⟩ (.float .f64 Z2)) k7 41 [O ι d, σ (some ⟨gc, 0, none⟩) cs.length ca]) := by
    have q : k7 ≠ gc := fun e => HB71.out.ne (HF1.out.dh.cel st _ HT2.out) (by decide) (by rw [e]; rfl)
    exact ((HB71.out.far q _).far q _).far q _
   clear x5
   refine ze (i := 17) (by kernel_rfl) rfl (fun K hK => ?_)
   go_simp
   refine hK.out _ _ (fun _ => S1.out) ?_
   clear hK K
   try simp only [aP, sT, sZ, sS]
   refine ze (i := 18) (by kernel_rfl) rfl (fun K hK => ?_)
   go_simp
   refine hK.out _ _ (fun h => absurd h (by decide)) ?_
   clear hK K
   try simp only [aP, sT, sZ, sS]
   refine zm (by kernel_rfl) ?_ _
   refine ⟨rfl, ?_⟩
   clear SA S1
   go_wp2_with fail
   go_roundw
   ·refine ⟨k + 1, cs2.set k (X2, Y2, Z2), by go_num, by omega, by simp [HL2.out], ?_, HBP.out⟩
    have hp := HP.out
    rw [List.set_set] at hp
    rw [List.length_set]
    exact hp
   ·simp [intOf]; omega
  ·have hkk : k = cs.length := by omega
   have hd2 : decide ((k : Int) < (cs.length : Int)) = false := decide_eq_false (by omega)
   have hdt9 : 1 ≤ dt ∧ dt ≤ 9 := by have := HDT.out; omega
   have fz2 := fz1 (st * 2)
   have FE := hide (HF.out.setDt HT2.out hdt9)
   have fe3 := FE.out.b3.cell 0 rfl
   have fe6 := FE.out.b6.cell 0 rfl
   have fe6f := FE.out.b6.fz 0
   have HFin := hide FE.out.fin
   clear fz1 e1
   go_wp2
   refine bodyPost_ret (v := γ #[σ (some ⟨g, 0, none⟩) L0.length cap]) (by simp [results, Tryz.results50, go_sem, fe6]) rfl ?_
   have := HFin.out
   simp only [List.length_set] at this
   exact this
end
section
open Go.ChangeShapes Go.RowKit FL
theorem zf17 (cs : List C3) : ∀ (i : Nat) (c : C3), cs[i]? = some c → ∀ x : Int, (flat cs).set (i * 3) (O ι x) = flat (cs.set i (x, c.2)) := by
 induction cs with
 | nil => intro i c h; simp at h
 | cons d ds ih =>
  intro i c h x
  cases i with
  | zero => simp at h; subst h; simp [flat, c3v]
  | succ i =>
   have := ih i c (by simpa using h) x
   rw [show (i + 1) * 3 = i * 3 + 1 + 1 + 1 by omega]
   simp only [flat, c3v, List.cons_append, List.nil_append, List.set_cons_succ] at this ⊢
   rw [this]
theorem ze17 (cs : List C3) : ∀ (i : Nat) (c : C3), cs[i]? = some c → ∀ x : Nat, (flat cs).set (i * 3 + 2) (.float .f64 x) = flat (cs.set i (c.1, c.2.1, x)) := by
 induction cs with
 | nil => intro i c h; simp at h
 | cons d ds ih =>
  intro i c h x
  cases i with
  | zero => simp at h; subst h; simp [flat, c3v]
  | succ i =>
   have := ih i c (by simpa using h) x
   rw [show (i + 1) * 3 + 2 = (i * 3 + 2) + 1 + 1 + 1 by omega]
   simp only [flat, c3v, List.cons_append, List.nil_append, List.set_cons_succ] at this ⊢
   rw [this]
structure SP (w W : World) (H b : Nat) (sv : Value) (L : List Dst) : Prop where
 sf : SF w W H b
 dh : DH W H sv L
 dg : DG L
 b2 : Bx W w.heap.size 25 [sv]
 b4 : Bx W (w.heap.size + 1) 25 [σ none 0 0]
theorem SP.bel {w W W' : World} {H b : Nat} {sv : Value} {L : List Dst} (h : SP w W H b sv L) (x : Bel W W') : SP w W' H b sv L := ⟨h.sf.bel x, h.dh.bel x, h.dg, h.b2.bel x, h.b4.bel x⟩
theorem SP.alloc {w W : World} {H b : Nat} {sv : Value} {L : List Dst} (h : SP w W H b sv L) (o : Obj) : SP w (W.alloc o) H b sv L := h.bel ((Below.refl W.heap.size W).alloc (Nat.le_refl _) o)
theorem SP.drew {w W : World} {H b : Nat} {sv : Value} {L : List Dst} (h : SP w W H b sv L) : SP w W.drew H b sv L := ⟨h.sf.drew, h.dh.drew, h.dg, h.b2, h.b4⟩
theorem SP.mut {w W W' : World} {H b : Nat} {sv : Value} {L : List Dst} (h : SP w W H b sv L) (s : SF w W' H b) (m : Mut b W W') : SP w W' H b sv L := by
 have h1 := h.sf.hb
 have h2 := h.sf.hH
 exact ⟨s, h.dh.mut m h1, h.dg, h.b2.mut m (by omega), h.b4.mut m (by omega)⟩
theorem SP.chg {w W W' : World} {H b E size n : Nat} {sv v : Value} {L L' : List Dst} {xs : List Value} (h : SP w W H b sv L) (x : W.grownBy W' v.ownBlock) (r : W.ownsRow H E size v n xs) (hE : E = 41 ∨ E = 47) (d : DH W' H sv L') (g : DG L') : SP w W' H b sv L' := by
 have h1 : (25 : TypeId) ≠ E := by rcases hE with rfl | rfl <;> decide
 exact ⟨h.sf.row x r (Nat.le_refl _) hE, d, g, h.b2.gb x (h.b2.ne r h1), h.b4.gb x (h.b4.ne r h1)⟩
theorem SP.setDt {w W : World} {H b i g n cap : Nat} {L : List Dst} {t : Dst} (h : SP w W H b (σ (some ⟨g, 0, none⟩) n cap) L) (ht : L[i]? = some t) (d : Int) :
  SP w (W.setCell ⟨g, i * 2, none⟩ (O ι d)) H b (σ (some ⟨g, 0, none⟩) n cap) (L.set i (d, t.2)) := by
 have hm := List.mem_of_getElem? ht
 exact h.chg (v := σ (some ⟨g, 0, none⟩) n cap) (zh1 _ _ _ _) h.dh.own (Or.inl rfl) (h.dh.setDt ht d) (h.dg.set i (by have := h.dg.cg _ hm; exact this) (by have := h.dg.few _ hm; exact this))
theorem SP.setI {w W : World} {H b i gc cc j : Nat} {sv : Value} {L : List Dst} {d : Int} {cs : List C3} (h : SP w W H b sv L) (ht : L[i]? = some (d, σ (some ⟨gc, 0, none⟩) cs.length cc, cs)) (hj : j < cs.length) {x : Int} (hx : I64 x) :
  SP w (W.setCell ⟨gc, j * 3, none⟩ (O ι x)) H b sv (L.set i (d, σ (some ⟨gc, 0, none⟩) cs.length cc, cs.set j (x, (cs[j]'hj).2))) := by
 have hm := List.mem_of_getElem? ht
 have hcj : cs[j]? = some (cs[j]'hj) := List.getElem?_eq_getElem hj
 have r := h.dh.cel i _ ht
 have s1 := r.stored (j * 3) (O ι x)
 have hok := h.dg.cg _ hm _ (List.getElem_mem hj)
 refine h.chg (v := σ (some ⟨gc, 0, none⟩) cs.length cc) s1.2 r (Or.inr rfl) (h.dh.put ht ?_ s1.2) (h.dg.set i ((h.dg.cg _ hm).set j ⟨hx, hok.2⟩) (by have := h.dg.few _ hm; simpa using this))
 rw [List.length_set, ← zf17 cs j _ hcj x]
 exact s1.1
theorem SP.setG {w W : World} {H b i gc cc j : Nat} {sv : Value} {L : List Dst} {d : Int} {cs : List C3} (h : SP w W H b sv L) (ht : L[i]? = some (d, σ (some ⟨gc, 0, none⟩) cs.length cc, cs)) (hj : j < cs.length) {x : Nat} (hx : B64 x) :
  SP w (W.setCell ⟨gc, j * 3 + 2, none⟩ (.float .f64 x)) H b sv (L.set i (d, σ (some ⟨gc, 0, none⟩) cs.length cc, cs.set j ((cs[j]'hj).1, (cs[j]'hj).2.1, x))) := by
 have hm := List.mem_of_getElem? ht
 have hcj : cs[j]? = some (cs[j]'hj) := List.getElem?_eq_getElem hj
 have r := h.dh.cel i _ ht
 have s1 := r.stored (j * 3 + 2) (.float .f64 x)
 have hok := h.dg.cg _ hm _ (List.getElem_mem hj)
 refine h.chg (v := σ (some ⟨gc, 0, none⟩) cs.length cc) s1.2 r (Or.inr rfl) (h.dh.put ht ?_ s1.2) (h.dg.set i ((h.dg.cg _ hm).set j ⟨hok.1, hok.2.1, hx⟩) (by have := h.dg.few _ hm; simpa using this))
 rw [List.length_set, ← ze17 cs j _ hcj x]
 exact s1.1
theorem SP.grow {w W w5 : World} {H b i g cap : Nat} {L : List Dst} {t : Dst} (h : SP w W H b (σ (some ⟨g, 0, none⟩) L.length cap) L) (hi : L[i]? = some t) {v : Value} {c : C3} (hc : CellOk c.1 c.2.1 c.2.2) (hl : t.2.2.length < 5000)
  (hown : w5.ownsRow H 47 3 v (t.2.2.length + 1) (flat t.2.2 ++ c3v c)) (hg : W.grownBy w5 t.2.1.ownBlock) (hat : ∀ b, v.ownBlock = some b → t.2.1.ownBlock = some b ∨ W.heap.size ≤ b) :
  SP w (w5.setCell ⟨g, i * 2 + 1, none⟩ v) H b (σ (some ⟨g, 0, none⟩) (L.set i (t.1, v, t.2.2 ++ [c])).length cap) (L.set i (t.1, v, t.2.2 ++ [c])) := by
 have hm : t ∈ L := List.mem_of_getElem? hi
 have hL : (L.set i (t.1, v, t.2.2 ++ [c])).length = L.length := by simp
 rw [hL]
 have r := h.dh.cel i t hi
 have ho := h.dh.own
 have ho5 : w5.ownsRow H 41 2 (σ (some ⟨g, 0, none⟩) L.length cap) L.length (flatD L) := ho.kept hg (zg1 ho r (by decide))
 have b4' := h.b2.gb hg (h.b2.ne r (by decide))
 have b8' := h.b4.gb hg (h.b4.ne r (by decide))
 have hne : ∀ {k : Nat}, some k ≠ (Value.slice (some ⟨g, 0, none⟩) L.length cap).ownBlock → k ≠ g := fun {k} q e => q (by rw [e]; rfl)
 refine ⟨(h.sf.row hg r (Nat.le_refl _) (Or.inr rfl)).row (v := σ (some ⟨g, 0, none⟩) L.length cap) (zh1 w5 g _ v) ho5 (Nat.le_refl _) (Or.inl rfl), ?_, h.dg.set i (h.dg.cg t hm |>.app hc) (by simp; omega), b4'.far (hne (b4'.ne ho5 (by decide))) v, b8'.far (hne (b8'.ne ho5 (by decide))) v⟩
 exact h.dh.setC hi (v := v) (cs := t.2.2 ++ [c]) (by rw [zw2, List.length_append]; exact hown) hg hat
theorem SP.more {w W w7 : World} {H b : Nat} {sv v7 : Value} {L : List Dst} (h : SP w W H b sv L) {d : Int} (hl : L.length < 70)
  (hown : w7.ownsRow H 41 2 v7 (L.length + 1) (flatD L ++ [O ι d, σ none 0 0])) (hg : (W.alloc (χ #[O ι d, σ none 0 0] 41)).grownBy w7 sv.ownBlock) : SP w (w7.setCell ⟨w.heap.size, 0, none⟩ v7) H b v7 (L ++ [(d, σ none 0 0, [])]) := by
 have ha := h.alloc (χ #[O ι d, σ none 0 0] 41)
 have hH := h.sf.hH
 have hz := h.sf.sz
 have b2' := ha.b2.gb hg (ha.b2.ne ha.dh.own (by decide))
 have b4' := ha.b4.gb hg (ha.b4.ne ha.dh.own (by decide))
 refine ⟨(ha.sf.row hg ha.dh.own (Nat.le_refl _) (Or.inl rfl)).set (Nat.le_refl _) _ _, ?_, h.dg.app (fun c hc => by simp at hc) (by simp) hl, by simpa using b2'.set 0 v7, b4'.far (by omega) _⟩
 have hd := h.dh.app (row := none) (w' := W.alloc (χ #[O ι d, σ none 0 0] 41)) (World.grownBy_alloc W _ _) (fun k e => by cases e) (d := d) (c := σ none 0 0) (cs := []) (World.ownsRow_nil _ _ _ _) (by omega) hown hg
 exact hd.box b2' (by decide) (by decide)
def SpoilOk (w : World) (H b : Nat) (e : Ending) (W : World) : Prop := ∃ (sv : Value) (L : List Dst), e = .returned (γ #[sv]) ∧ DH W H sv L ∧ DG L ∧ SF w W H b
theorem SP.fin {w W : World} {H b : Nat} {sv : Value} {L : List Dst} (h : SP w W H b sv L) : SpoilOk w H b (.returned (γ #[sv])) (W.setCell ⟨w.heap.size + 1, 0, none⟩ sv) :=
 ⟨sv, L, rfl, h.dh.box h.b4 (by decide) (by decide), h.dg, h.sf.set (by omega) _ _⟩
end
end Go.Proofs.YtjbbodfdpbcnhaaGreat
