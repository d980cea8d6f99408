import Derived.Test.YtfhcpicddegblaaGreatFsPt
import Derived.Test.YtfhcpicddegblaaGreatM9
import Derived.Test.YtfhcpicddegblaaGreatM8
namespace Go.Proofs.YtfhcpicddegblaaGreat
open Go.ChangeShapes Go.RowKit Go.Shelf FL
set_option linter.unusedSimpArgs false
set_option linter.unusedVariables false

attribute [local go_sem] Oper.semAt_some

/-- The cells when the first j have been put. -/
def putN (cs : List C3) (L : List Int) (X : List Nat) : Nat → List C3
  | 0 => cs
  | j + 1 => (putN cs L X j).set (L.getD j 0).toNat (0, X.getD j 0, 0)
theorem putN_len (cs : List C3) (L : List Int) (X : List Nat) (j : Nat) : (putN cs L X j).length = cs.length := by
  induction j with
  | zero => rfl
  | succ j ih => rw [putN, List.length_set, ih]
theorem putN_congr (cs : List C3) {L L' : List Int} (X : List Nat) {j : Nat} (h : ∀ i, i < j → L.getD i 0 = L'.getD i 0) : putN cs L X j = putN cs L' X j := by
  induction j with
  | zero => rfl
  | succ j ih => rw [putN, putN, ih (fun i hi => h i (by omega)), h j (by omega)]
theorem putN_snoc (cs : List C3) (L : List Int) (X : List Nat) (p : Int) : putN cs (L ++ [p]) X (L.length + 1) = (putN cs L X L.length).set p.toNat (0, X.getD L.length 0, 0) := by
  rw [putN, putN_congr cs X (L' := L) (fun i hi => by simp [List.getD_eq_getElem?_getD, List.getElem?_append_left hi])]
  simp [List.getD_eq_getElem?_getD]
/-- The stores, when the cells X have been put into store m at the places L. -/
def putS (ss : List St) (m : Nat) (L : List Int) (X : List Nat) (j : Nat) : List St := ss.set m ((ss.getD m s0).1, putN (ss.getD m s0).2 L X j)
theorem putS_len (ss : List St) (m : Nat) (L : List Int) (X : List Nat) (j : Nat) : (putS ss m L X j).length = ss.length := by simp [putS]
theorem st_set {α : Type} (l : List α) (i j : Nat) (a d : α) : (l.set i a).getD j d = if i = j ∧ j < l.length then a else l.getD j d := by
  simp only [List.getD_eq_getElem?_getD, List.getElem?_set]
  by_cases h : i = j
  · subst h
    by_cases hl : i < l.length
    · simp [hl]
    · simp [hl]
  · simp [h]
theorem putS_at (ss : List St) (m : Nat) (L : List Int) (X : List Nat) (j i : Nat) : ((putS ss m L X j).getD i s0).1 = (ss.getD i s0).1 ∧ ((putS ss m L X j).getD i s0).2.length = (ss.getD i s0).2.length ∧ (i ≠ m → (putS ss m L X j).getD i s0 = ss.getD i s0) := by
  unfold putS
  rw [st_set]
  by_cases h : m = i ∧ i < ss.length
  · rw [if_pos h, ← h.1]
    exact ⟨rfl, putN_len .., fun q => absurd rfl q⟩
  · rw [if_neg h]
    exact ⟨rfl, rfl, fun _ => rfl⟩
theorem nil_len {α : Type} (l : List α) : l = [] ↔ l.length = 0 := by cases l <;> simp
theorem HOwn.put {w w1 : World} {lo g m p x j : Nat} {cb : Nat → Nat} {ss : List St} {L : List Int} {X : List Nat} (h : HOwn w lo g cb (putS ss m L X j)) (hm : m < ss.length) (hp : p < (ss.getD m s0).2.length) (hL : L.length = j) (x1 : Ext w w1) (hx : x = X.getD j 0) :
    HOwn (set3 w1 (cb m) (p * 3) x) lo g cb (putS ss m (L ++ [(p : Int)]) X (j + 1)) := by
  have h1 : HOwn w1 lo g cb (putS ss m L X j) := h.keep (fun b _ hb => x1.bl.block b hb) x1.bl.size
  clear h x1
  have hne : (ss.getD m s0).2 ≠ [] := fun e => by rw [e] at hp; simp at hp
  have hmm : (putS ss m L X j).getD m s0 = ((ss.getD m s0).1, putN (ss.getD m s0).2 L X j) := by unfold putS; rw [st_set, if_pos ⟨rfl, hm⟩]
  have hmn : (putS ss m (L ++ [(p : Int)]) X (j + 1)).getD m s0 = ((ss.getD m s0).1, (putN (ss.getD m s0).2 L X j).set p (0, x, 0)) := by
    unfold putS
    rw [st_set, if_pos ⟨rfl, hm⟩, ← hL, putN_snoc, hx, hL, Int.toNat_natCast]
  have hnm : ∀ i, i ≠ m → (putS ss m (L ++ [(p : Int)]) X (j + 1)).getD i s0 = (putS ss m L X j).getD i s0 := fun i hi => ((putS_at ss m _ X (j + 1) i).2.2 hi).trans ((putS_at ss m L X j i).2.2 hi).symm
  have hnil : ∀ i, ((putS ss m (L ++ [(p : Int)]) X (j + 1)).getD i s0).2 ≠ [] ↔ ((putS ss m L X j).getD i s0).2 ≠ [] := fun i => by
    rw [ne_eq, ne_eq, nil_len, nil_len, (putS_at ss m _ X (j + 1) i).2.1, (putS_at ss m L X j i).2.1]
  have hlen : ∀ i, ((putS ss m (L ++ [(p : Int)]) X (j + 1)).getD i s0).2.length = ((putS ss m L X j).getD i s0).2.length := fun i => by rw [(putS_at ss m _ X (j + 1) i).2.1, (putS_at ss m L X j i).2.1]
  have hnem : ((putS ss m L X j).getD m s0).2 ≠ [] := fun e => hne (by rw [nil_len] at e ⊢; rw [← (putS_at ss m L X j m).2.1]; exact e)
  have hml : m < (putS ss m L X j).length := by rw [putS_len]; exact hm
  have hgm := h1.g_cb m hml hnem
  have hcb : ∀ i, i < ss.length → ((putS ss m L X j).getD i s0).2 ≠ [] → i ≠ m → cb i ≠ cb m := fun i hi hi2 him e => by
    rcases Nat.lt_or_gt_of_ne him with q | q
    · have := h1.inc i m q hml hi2 hnem; omega
    · have := h1.inc m i q (by rw [putS_len]; exact hi) hnem hi2; omega
  refine ⟨fun i hi => ?_, fun i hi => ?_, fun i hi hne2 => ?_, fun o => ?_, fun i hi hne2 o => ?_, h1.lo_g, ?_, fun i hi hne2 => ?_, fun i i' hii hi' hn1 hn2 => ?_⟩
  · rw [putS_len] at hi
    rw [(putS_at ss m _ X (j + 1) i).1, ← (putS_at ss m L X j i).1]
    exact set3_box (by omega) (h1.dt i (by rw [putS_len]; exact hi))
  · rw [putS_len] at hi
    obtain ⟨sa, cap, q1, q2⟩ := h1.sl i (by rw [putS_len]; exact hi)
    refine ⟨sa, cap, ?_, ?_⟩
    · rw [hlen]; exact set3_box (by omega) q1
    · rcases q2 with q2 | q2
      · exact Or.inl (by rw [nil_len, hlen]; rw [nil_len] at q2; exact q2)
      · exact Or.inr q2
  · rw [putS_len] at hi
    rw [hnil] at hne2
    have hr := h1.row i (by rw [putS_len]; exact hi) hne2
    by_cases e : i = m
    · subst e
      rw [hmn]
      rw [hmm] at hr
      have q := hr.set p (by rw [putN_len]; exact hp) (0, x, 0)
      simp only [Nat.zero_add] at q
      exact q
    · rw [hnm i e]
      have hc := hcb i hi hne2 e
      exact fun z hz => ⟨set3_box hc (hr z hz).1, set3_box hc (hr z hz).2.1, set3_box hc (hr z hz).2.2⟩
  · unfold set3; rw [World.frozen?_setCell, World.frozen?_setCell, World.frozen?_setCell]; exact h1.fz o
  · rw [putS_len] at hi
    rw [hnil] at hne2
    unfold set3; rw [World.frozen?_setCell, World.frozen?_setCell, World.frozen?_setCell]
    exact h1.fzr i (by rw [putS_len]; exact hi) hne2 o
  · have := h1.g_lt; simpa [set3, World.setCell] using this
  · rw [putS_len] at hi
    rw [hnil] at hne2
    exact h1.g_cb i (by rw [putS_len]; exact hi) hne2
  · rw [putS_len] at hi'
    rw [hnil] at hn1 hn2
    exact h1.inc i i' hii (by rw [putS_len]; exact hi') hn1 hn2
theorem block_kept {W W' : World} {row : Option Nat} (hg : W.grownBy W' row) (hr : ∀ r, row = some r → ∃ o : Obj, W.heap[r]? = some o ∧ o.isCells = false) {b q : Nat} {x : Value} (hc : W.cell? ⟨b, q, none⟩ = some x) : W'.heap[b]? = W.heap[b]? :=
  by
    obtain ⟨o, h1, h2⟩ := cells_of_cell hc
    exact grownBy_keeps_cells hg hr h1 h2
theorem HOwn.kept {A B : World} {lo g : Nat} {cb : Nat → Nat} {ss : List St} {row : Option Nat} (h : HOwn A lo g cb ss) (h0 : 0 < ss.length) (hg : A.grownBy B row) (hr : ∀ r, row = some r → ∃ o : Obj, A.heap[r]? = some o ∧ o.isCells = false) : HOwn B lo g cb ss := by
  have hbg : B.heap[g]? = A.heap[g]? := block_kept hg hr (h.dt 0 h0)
  have hc : ∀ {b o x}, A.cell? ⟨b, o, none⟩ = some x → B.cell? ⟨b, o, none⟩ = some x := fun hx => cell_kept hx hg hr
  refine ⟨fun j hj => hc (h.dt j hj), fun j hj => ?_, fun j hj hne => fun i hi => ⟨hc (h.row j hj hne i hi).1, hc (h.row j hj hne i hi).2.1, hc (h.row j hj hne i hi).2.2⟩, fun o => (World.frozen?_of_block (w := A) (a := ⟨g, o, none⟩) hbg).trans (h.fz o), fun j hj hne o => ?_, h.lo_g, Nat.lt_of_lt_of_le h.g_lt hg.size, h.g_cb, h.inc⟩
  · obtain ⟨sa, cap, h1, h2⟩ := h.sl j hj
    exact ⟨sa, cap, hc h1, h2⟩
  · exact (World.frozen?_of_block (w := A) (a := ⟨cb j, o, none⟩) (block_kept hg hr (h.row j hj hne 0 (List.length_pos_iff.2 hne)).1)).trans (h.fzr j hj hne o)
theorem Ext.others {W W' : World} (x : Ext W W') : KeepsOthers W W' := ⟨x.bl.size, fun k o hk _ => (x.bl.block k (Array.getElem?_eq_some_iff.1 hk).1).trans hk⟩
theorem Ext.kc {W W' : World} (x : Ext W W') (b : Nat) : KC b W W' := ⟨x.bl.size, fun k o _ hk _ => (x.bl.block k (Array.getElem?_eq_some_iff.1 hk).1).trans hk⟩
theorem set3_others (W : World) (b o x : Nat) : KeepsOthers W (set3 W b o x) := ((KeepsOthers.setCell _ _ _).trans (KeepsOthers.setCell _ _ _)).trans (KeepsOthers.setCell _ _ _)
theorem set3_kc (W : World) {n b : Nat} (hb : b < n) (o x : Nat) : KC n W (set3 W b o x) := ((KC.setCell W (p := ⟨b, o, none⟩) hb _).trans (KC.setCell _ (p := ⟨b, o + 1, none⟩) hb _)).trans (KC.setCell _ (p := ⟨b, o + 2, none⟩) hb _)
theorem set3_below {lo : Nat} {A W : World} (h : Below lo A W) {b : Nat} (hb : lo ≤ b) (o x : Nat) : Below lo A (set3 W b o x) := ((h.setCell (p := ⟨b, o, none⟩) hb _).setCell (p := ⟨b, o + 1, none⟩) hb _).setCell (p := ⟨b, o + 2, none⟩) hb _
theorem set3_fz (W : World) (b o x : Nat) (a : Addr) : (set3 W b o x).frozen? a = W.frozen? a := by unfold set3; rw [World.frozen?_setCell, World.frozen?_setCell, World.frozen?_setCell]
theorem fcells_len (X : List Nat) : (fcells X).length = X.length := by simp [fcells]
theorem fcells_at (X : List Nat) (j : Nat) (hj : j < X.length) : (fcells X).getD j k0 = (0, X.getD j 0, 0) := by simp [fcells, List.getD_eq_getElem?_getD, hj]
theorem HOwn.far {w : World} {lo g b o : Nat} {cb : Nat → Nat} {ss : List St} {v : Value} (h : HOwn w lo g cb ss) (hg : b ≠ g) (hc : ∀ j, j < ss.length → (ss.getD j s0).2 ≠ [] → b ≠ cb j) : HOwn (w.setCell ⟨b, o, none⟩ v) lo g cb ss := by
  have hk : ∀ {c q x}, b ≠ c → w.cell? ⟨c, q, none⟩ = some x → (w.setCell ⟨b, o, none⟩ v).cell? ⟨c, q, none⟩ = some x := fun {c q x} hne hx => (World.cell?_of_block (w := w) (a := ⟨c, q, none⟩) (Below.heap_setCell _ _ _ _ (Ne.symm hne))).trans hx
  refine ⟨fun j hj => hk hg (h.dt j hj), fun j hj => ?_, fun j hj hne => fun i hi => ⟨hk (hc j hj hne) (h.row j hj hne i hi).1, hk (hc j hj hne) (h.row j hj hne i hi).2.1, hk (hc j hj hne) (h.row j hj hne i hi).2.2⟩, fun q => by rw [World.frozen?_setCell]; exact h.fz q, fun j hj hne q => by rw [World.frozen?_setCell]; exact h.fzr j hj hne q, h.lo_g, by have := h.g_lt; simpa [World.setCell] using this, h.g_cb, h.inc⟩
  obtain ⟨sa, cap, h1, h2⟩ := h.sl j hj
  exact ⟨sa, cap, hk hg h1, h2⟩
theorem nxt {w : World} {b o c q : Nat} {x v : Value} (h : w.cell? ⟨b, o, none⟩ = some x) (hne : b ≠ c := by omega) : (w.setCell ⟨c, q, none⟩ v).cell? ⟨b, o, none⟩ = some x := (World.cell?_of_block (w := w) (a := ⟨b, o, none⟩) (Below.heap_setCell _ _ _ _ hne)).trans h
/-- What the loop holds. -/
structure HwI (W4 w2 : World) (g : Nat) (cb : Nat → Nat) (ss : List St) (m : Nat) (X : List Nat) (sb : Option Addr) (cl cp : Nat) (L : List Int) (W : World) : Prop where
  own : HOwn W W4.heap.size g cb (putS ss m L X L.length)
  d0 : W.cell? ⟨w2.heap.size, 0, none⟩ = some (.slice (some ⟨g, 0, none⟩) ss.length ss.length)
  d1 : W.cell? ⟨w2.heap.size, 1, none⟩ = some (.slice sb cl cp)
  d2 : W.cell? ⟨w2.heap.size, 2, none⟩ = some (.int .i64 8)
  d3 : W.cell? ⟨w2.heap.size, 3, none⟩ = some (.int .i64 8)
  ni : W.cell? ⟨w2.heap.size + 1, 0, none⟩ = some (.int .i64 L.length)
  nf : W.frozen? ⟨w2.heap.size + 1, 0, none⟩ = false
theorem HwI.kept {W4 w2 : World} {g : Nat} {cb : Nat → Nat} {ss : List St} {m : Nat} {X : List Nat} {sb : Option Addr} {cl cp : Nat} {L : List Int} {A B : World} {row : Option Nat} (h : HwI W4 w2 g cb ss m X sb cl cp L A) (h0 : 0 < ss.length) (hg : A.grownBy B row) (hr : ∀ r, row = some r → ∃ o : Obj, A.heap[r]? = some o ∧ o.isCells = false) : HwI W4 w2 g cb ss m X sb cl cp L B :=
  ⟨h.own.kept (by rw [putS_len]; exact h0) hg hr, cell_kept h.d0 hg hr, cell_kept h.d1 hg hr, cell_kept h.d2 hg hr, cell_kept h.d3 hg hr, cell_kept h.ni hg hr, (frozen_kept h.ni hg hr).trans h.nf⟩

set_option maxRecDepth 100000 in
set_option maxHeartbeats 2000000 in
theorem heapWith_in (n : Nat) (hn : 3 ≤ n) (xs sv : List Int) (off : Int) (m : Nat) (u : Value) {w : World} {v : Value} {ss : List St} {sx : Option Addr} {cx : Nat} {X : List Nat} (h : SV w v ss) (hl : SL ss 1048576) (hm : m < ss.length) (hv : ValidV xs sv off) (hin : ∀ p ∈ offsL xs sv off, p < ((ss.getD m s0).2.length : Int))
    (hX : CV w (.slice sx X.length cx) (fcells X)) (hXb : ∀ j, B64 (X.getD j 0)) (hXl : (offsL xs sv off).length ≤ X.length) (hX4 : X.length ≤ 4096) :
    CallsIn Fence.wide n Tryz.prog 44 #[.agg #[.int .i64 xs.length, .int .i64 (xs.getD 0 0), .int .i64 (xs.getD 1 0), .int .i64 (xs.getD 2 0), .int .i64 (xs.getD 3 0), .int .i64 (sv.getD 0 0), .int .i64 (sv.getD 1 0), .int .i64 (sv.getD 2 0), .int .i64 (sv.getD 3 0), .int .i64 off, .int .i64 m, .int .i64 8, u], .agg #[v], .int .i64 8, .slice sx X.length cx] w fun e w' => ∃ g cb, e = .returned (.agg #[.slice (some ⟨g, 0, none⟩) ss.length ss.length]) ∧ HOwn w' w.heap.size g cb (putS ss m (offsL xs sv off) X (offsL xs sv off).length) ∧ Bel w w' := by
  have hdd : ∀ k : Nat, (Fence.wide.depth.isSome = true → 1 ≤ k) := fun k h => by cases h
  obtain ⟨sa, cap, rfl, hsx⟩ := h
  have h : SV w (.slice sa ss.length cap) ss := ⟨sa, cap, rfl, hsx⟩
  have hpl := hide (fun n W => placesF_in n xs sv off W)
  have hst := hide (fun n Bf W hB => placesKN ((ss.getD m s0).2.length : Int) n Bf xs sv off hv.1.1 hv.2.1 hv.1.2.1 hv.1.2.2 hv.2.2.2.1 hv.2.2.1 (fun x hx => ⟨(offs_in hv x hx).1, hin x hx⟩) W hB)
  clear hv hin hsx
  obtain ⟨cs, hcs⟩ : ∃ cs, cs = (ss.getD m s0).2 := ⟨_, rfl⟩
  rw [← hcs] at hst
  have Hcs := hide hcs
  clear hcs
  unfold vw at hpl hst
  generalize hOL : offsL xs sv off = OL at hst hXl ⊢
  have HOL := hide hOL
  clear hOL
  generalize xs.getD 0 0 = a0 at *
  generalize xs.getD 1 0 = a1 at *
  generalize xs.getD 2 0 = a2 at *
  generalize xs.getD 3 0 = a3 at *
  generalize sv.getD 0 0 = s0' at *
  generalize sv.getD 1 0 = s1 at *
  generalize sv.getD 2 0 = s2 at *
  generalize sv.getD 3 0 = s3 at *
  have x0 : Ext w ((((w.alloc (.cells #[.int .i64 xs.length, .int .i64 a0, .int .i64 a1, .int .i64 a2, .int .i64 a3, .int .i64 s0', .int .i64 s1, .int .i64 s2, .int .i64 s3, .int .i64 off, .int .i64 m, .int .i64 8, u] 85)).alloc (.cells #[.slice sa ss.length cap] 34)).alloc (.cells #[.slice sx X.length cx] 61)).alloc (.cells #[.slice none 0 0] 34)) := ((((Ext.refl w).alloc _ _).alloc _ _).alloc _ _).alloc _ _
  have hs4 : (((((w.alloc (.cells #[.int .i64 xs.length, .int .i64 a0, .int .i64 a1, .int .i64 a2, .int .i64 a3, .int .i64 s0', .int .i64 s1, .int .i64 s2, .int .i64 s3, .int .i64 off, .int .i64 m, .int .i64 8, u] 85)).alloc (.cells #[.slice sa ss.length cap] 34)).alloc (.cells #[.slice sx X.length cx] 61)).alloc (.cells #[.slice none 0 0] 34))).heap.size = w.heap.size + 4 := by simp
  have x1 : Ext (w.alloc (.cells #[.int .i64 xs.length, .int .i64 a0, .int .i64 a1, .int .i64 a2, .int .i64 a3, .int .i64 s0', .int .i64 s1, .int .i64 s2, .int .i64 s3, .int .i64 off, .int .i64 m, .int .i64 8, u] 85)) ((((w.alloc (.cells #[.int .i64 xs.length, .int .i64 a0, .int .i64 a1, .int .i64 a2, .int .i64 a3, .int .i64 s0', .int .i64 s1, .int .i64 s2, .int .i64 s3, .int .i64 off, .int .i64 m, .int .i64 8, u] 85)).alloc (.cells #[.slice sa ss.length cap] 34)).alloc (.cells #[.slice sx X.length cx] 61)).alloc (.cells #[.slice none 0 0] 34)) := (((Ext.refl _).alloc _ _).alloc _ _).alloc _ _
  have x3 : Ext (((w.alloc (.cells #[.int .i64 xs.length, .int .i64 a0, .int .i64 a1, .int .i64 a2, .int .i64 a3, .int .i64 s0', .int .i64 s1, .int .i64 s2, .int .i64 s3, .int .i64 off, .int .i64 m, .int .i64 8, u] 85)).alloc (.cells #[.slice sa ss.length cap] 34)).alloc (.cells #[.slice sx X.length cx] 61)) ((((w.alloc (.cells #[.int .i64 xs.length, .int .i64 a0, .int .i64 a1, .int .i64 a2, .int .i64 a3, .int .i64 s0', .int .i64 s1, .int .i64 s2, .int .i64 s3, .int .i64 off, .int .i64 m, .int .i64 8, u] 85)).alloc (.cells #[.slice sa ss.length cap] 34)).alloc (.cells #[.slice sx X.length cx] 61)).alloc (.cells #[.slice none 0 0] 34)) := (Ext.refl _).alloc _ _
  have KA : Hid (∀ j, j < 13 → (((((w.alloc (.cells #[.int .i64 xs.length, .int .i64 a0, .int .i64 a1, .int .i64 a2, .int .i64 a3, .int .i64 s0', .int .i64 s1, .int .i64 s2, .int .i64 s3, .int .i64 off, .int .i64 m, .int .i64 8, u] 85)).alloc (.cells #[.slice sa ss.length cap] 34)).alloc (.cells #[.slice sx X.length cx] 61)).alloc (.cells #[.slice none 0 0] 34))).cell? ⟨w.heap.size, j, none⟩ = #[.int .i64 xs.length, .int .i64 a0, .int .i64 a1, .int .i64 a2, .int .i64 a3, .int .i64 s0', .int .i64 s1, .int .i64 s2, .int .i64 s3, .int .i64 off, .int .i64 m, .int .i64 8, u][j]?) := fun j hj => by
    have q := new_cell w #[.int .i64 xs.length, .int .i64 a0, .int .i64 a1, .int .i64 a2, .int .i64 a3, .int .i64 s0', .int .i64 s1, .int .i64 s2, .int .i64 s3, .int .i64 off, .int .i64 m, .int .i64 8, u] 85 w.heap.size rfl j
    rw [← q]
    exact (x1.bl.cell (p := ⟨w.heap.size, j, none⟩) (by show w.heap.size < _; simp))
  have KX := hide (x3.box (new_cell ((w.alloc (.cells #[.int .i64 xs.length, .int .i64 a0, .int .i64 a1, .int .i64 a2, .int .i64 a3, .int .i64 s0', .int .i64 s1, .int .i64 s2, .int .i64 s3, .int .i64 off, .int .i64 m, .int .i64 8, u] 85)).alloc (.cells #[.slice sa ss.length cap] 34)) #[.slice sx X.length cx] 61 (w.heap.size + 2) (by simp) 0))
  have KR := hide (new_cell (((w.alloc (.cells #[.int .i64 xs.length, .int .i64 a0, .int .i64 a1, .int .i64 a2, .int .i64 a3, .int .i64 s0', .int .i64 s1, .int .i64 s2, .int .i64 s3, .int .i64 off, .int .i64 m, .int .i64 8, u] 85)).alloc (.cells #[.slice sa ss.length cap] 34)).alloc (.cells #[.slice sx X.length cx] 61)) #[.slice none 0 0] 34 (w.heap.size + 3) (by simp) 0)
  have FR : Hid ((((((w.alloc (.cells #[.int .i64 xs.length, .int .i64 a0, .int .i64 a1, .int .i64 a2, .int .i64 a3, .int .i64 s0', .int .i64 s1, .int .i64 s2, .int .i64 s3, .int .i64 off, .int .i64 m, .int .i64 8, u] 85)).alloc (.cells #[.slice sa ss.length cap] 34)).alloc (.cells #[.slice sx X.length cx] 61)).alloc (.cells #[.slice none 0 0] 34))).frozen? ⟨w.heap.size + 3, 0, none⟩ = false) := x0.unfrozen (by omega) 0
  have X0 := hide x0
  have HS4 := hide hs4
  have HDR := hide (draft_any (h.keep x0.bl) hl xs.length a0 a1 a2 a3 s0' s1 s2 s3 off 8 m u hm)
  have HX := hide hX
  clear x0 hs4 x1 x3 hX h
  refine callsIn_of_wp_marks Tryz.func44 rfl trivial ?_ rfl
  simp only [Tryz.ntmps44, List.size_toArray, List.length_cons, List.length_nil, Nat.reduceAdd, Nat.reduceSub, Array.replicate_succ, Array.replicate_zero, List.push_toArray, List.append_toArray, List.nil_append, List.cons_append]
  gi_wp2
  refine ⟨trivial, hdd _, ?_⟩
  generalize hW4 : ((((w.alloc (.cells #[.int .i64 xs.length, .int .i64 a0, .int .i64 a1, .int .i64 a2, .int .i64 a3, .int .i64 s0', .int .i64 s1, .int .i64 s2, .int .i64 s3, .int .i64 off, .int .i64 m, .int .i64 8, u] 85)).alloc (.cells #[.slice sa ss.length cap] 34)).alloc (.cells #[.slice sx X.length cx] 61)).alloc (.cells #[.slice none 0 0] 34)) = W4 at *
  refine (callsIn_wide.2 HDR.out).mono ?_
  rintro e w2 ⟨g, cb, sb, cp, rfl, hO, hB, hcg⟩
  rw [← Hcs.out] at hcg ⊢
  have ka : ∀ j x, j < 13 → #[.int .i64 xs.length, .int .i64 a0, .int .i64 a1, .int .i64 a2, .int .i64 a3, .int .i64 s0', .int .i64 s1, .int .i64 s2, .int .i64 s3, .int .i64 off, .int .i64 m, .int .i64 8, u][j]? = some x → w2.cell? ⟨w.heap.size, j, none⟩ = some x := fun j x hj hx => Bel.box hB ((KA.out j hj).trans hx)
  have ka0 := ka 0 _ (by omega) rfl
  have ka1 := ka 1 _ (by omega) rfl
  have ka2 := ka 2 _ (by omega) rfl
  have ka3 := ka 3 _ (by omega) rfl
  have ka4 := ka 4 _ (by omega) rfl
  have ka5 := ka 5 _ (by omega) rfl
  have ka6 := ka 6 _ (by omega) rfl
  have ka7 := ka 7 _ (by omega) rfl
  have ka8 := ka 8 _ (by omega) rfl
  have ka9 := ka 9 _ (by omega) rfl
  have KX2 := hide (Bel.box hB KX.out)
  have KR2 := hide (Bel.box hB KR.out)
  have FR2 := hide ((Below.frozen hB (p := ⟨w.heap.size + 3, 0, none⟩) (by rw [HS4.out]; show w.heap.size + 3 < _; omega)).trans FR.out)
  have HB2 := hide (Bel.tr X0.out.bl hB)
  have HO2 := hide hO
  have HCG := hide hcg
  have hs2 : W4.heap.size ≤ w2.heap.size := hB.size
  rw [HS4.out] at hs2
  have x6 : Ext w2 ((w2.alloc (.cells #[.slice (some ⟨g, 0, none⟩) ss.length ss.length, .slice sb cs.length cp, .int .i64 8, .int .i64 8] 148)).alloc (.cells #[.int .i64 0] 3)) := ((Ext.refl w2).alloc _ _).alloc _ _
  have x5 : Ext (w2.alloc (.cells #[.slice (some ⟨g, 0, none⟩) ss.length ss.length, .slice sb cs.length cp, .int .i64 8, .int .i64 8] 148)) ((w2.alloc (.cells #[.slice (some ⟨g, 0, none⟩) ss.length ss.length, .slice sb cs.length cp, .int .i64 8, .int .i64 8] 148)).alloc (.cells #[.int .i64 0] 3)) := (Ext.refl _).alloc _ _
  have ka0 := x6.box ka0
  have ka1 := x6.box ka1
  have ka2 := x6.box ka2
  have ka3 := x6.box ka3
  have ka4 := x6.box ka4
  have ka5 := x6.box ka5
  have ka6 := x6.box ka6
  have ka7 := x6.box ka7
  have ka8 := x6.box ka8
  have ka9 := x6.box ka9
  have nd := fun j => new_cell w2 #[.slice (some ⟨g, 0, none⟩) ss.length ss.length, .slice sb cs.length cp, .int .i64 8, .int .i64 8] 148 w2.heap.size rfl j
  have ND0 := hide (x5.box (nd 0))
  have ND1 := hide (x5.box (nd 1))
  have ND2 := hide (x5.box (nd 2))
  have ND3 := hide (x5.box (nd 3))
  have NI := hide (new_cell (w2.alloc (.cells #[.slice (some ⟨g, 0, none⟩) ss.length ss.length, .slice sb cs.length cp, .int .i64 8, .int .i64 8] 148)) #[.int .i64 0] 3 (w2.heap.size + 1) (by simp) 0)
  have X6 := hide x6
  have hs6 : ((w2.alloc (.cells #[.slice (some ⟨g, 0, none⟩) ss.length ss.length, .slice sb cs.length cp, .int .i64 8, .int .i64 8] 148)).alloc (.cells #[.int .i64 0] 3)).heap.size = w2.heap.size + 2 := by simp
  have HBW := hide hB
  clear ka KA hO hB hcg HDR x6 x5 nd KX2 KR2 FR2
  gi_wp2
  generalize ((w2.alloc (.cells #[.slice (some ⟨g, 0, none⟩) ss.length ss.length, .slice sb cs.length cp, .int .i64 8, .int .i64 8] 148)).alloc (.cells #[.int .i64 0] 3)) = W6 at *
  refine ⟨trivial, hdd _, ?_⟩
  refine (hpl.out _ _).mono ?_
  rintro e w' ⟨rfl, rfl⟩
  clear hpl
  have h1 : 1 ≤ n := by omega
  gi_wp2
  have hst2 := hide (hst.out (n - 1) (w2.heap.size + 2) W6 (by rw [hs6]))
  have XV : Ext W6 (W6.alloc (.cells #[.int .i64 xs.length, .int .i64 a0, .int .i64 a1, .int .i64 a2, .int .i64 a3, .int .i64 s0', .int .i64 s1, .int .i64 s2, .int .i64 s3, .int .i64 off] 83)) := (Ext.refl W6).alloc _ _
  have I0 : Hid (HwI W4 w2 g cb ss m X sb cs.length cp [] (W6.alloc (.cells #[.int .i64 xs.length, .int .i64 a0, .int .i64 a1, .int .i64 a2, .int .i64 a3, .int .i64 s0', .int .i64 s1, .int .i64 s2, .int .i64 s3, .int .i64 off] 83))) := by
    have e : putS ss m [] X 0 = ss := by
      unfold putS
      show ss.set m ((ss.getD m s0).1, (ss.getD m s0).2) = ss
      rw [List.getD_eq_getElem?_getD, List.getElem?_eq_getElem hm]
      exact List.set_getElem_self hm
    refine ⟨?_, XV.box ND0.out, XV.box ND1.out, XV.box ND2.out, XV.box ND3.out, XV.box NI.out, ((X6.out.trans XV).unfrozen (by omega) 0)⟩
    show HOwn _ _ _ _ (putS ss m [] X 0)
    rw [e]
    exact HO2.out.keep (fun b _ hb => (X6.out.trans XV).bl.block b hb) (X6.out.trans XV).bl.size
  have B0 : Hid (Below W4.heap.size W4 (W6.alloc (.cells #[.int .i64 xs.length, .int .i64 a0, .int .i64 a1, .int .i64 a2, .int .i64 a3, .int .i64 s0', .int .i64 s1, .int .i64 s2, .int .i64 s3, .int .i64 off] 83))) := Bel.tr HBW.out (X6.out.trans XV).bl
  have hsV : (W6.alloc (.cells #[.int .i64 xs.length, .int .i64 a0, .int .i64 a1, .int .i64 a2, .int .i64 a3, .int .i64 s0', .int .i64 s1, .int .i64 s2, .int .i64 s3, .int .i64 off] 83)).heap.size = w2.heap.size + 3 := by rw [World.size_alloc, hs6]
  have hsl : Hid (cs = [] ∨ sb = some ⟨cb m, 0, none⟩) := by
    obtain ⟨sa', cap', q1, q2⟩ := HO2.out.sl m hm
    have q3 := HCG.out.symm.trans q1
    injection q3 with q3
    injection q3 with q3 q4 q5
    rw [q3, Hcs.out]; exact q2
  have hcball : Hid (∀ j, j < ss.length → (ss.getD j s0).2 ≠ [] → cb j < w2.heap.size) := fun j hj hne => cell_lt (HO2.out.row j hj hne 0 (List.length_pos_iff.2 hne)).1
  have hgw2 : Hid (g < w2.heap.size) := HO2.out.g_lt
  clear XV hst ka0 ka1 ka2 ka3 ka4 ka5 ka6 ka7 ka8 ka9 ND0 ND1 ND2 ND3 NI
  have h0s : 0 < ss.length := by omega
  have hw4 := HS4.out
  generalize hWV : (W6.alloc (.cells #[.int .i64 xs.length, .int .i64 a0, .int .i64 a1, .int .i64 a2, .int .i64 a3, .int .i64 s0', .int .i64 s1, .int .i64 s2, .int .i64 s3, .int .i64 off] 83)) = WV at *
  clear hWV
  refine wpIn_rangeFunc_ownF rfl h1 (gf := 119) (lb := #[.pointer (some ⟨w2.heap.size + 2, 0, none⟩)]) rfl trivial (enters_of Tryz.func119 (by kernel_rfl) rfl)
    hst2.out (fun h k => KC.trans h k) (fun W l o o' h1 h2 h3 h4 => kc_put W l o o' h1 h2 h3 h4) (Below.refl _ _) (fun _ => rfl)
    (fun pre W => HwI W4 w2 g cb ss m X sb cs.length cp (pnv pre) W ∧ Below W4.heap.size W4 W)
    (fun _ _ _ => False)
    (OwnFrom.and (Own.from (fun (s : List (PlN (cs.length : Int))) A B row hs hg hr => (HwI.kept (L := pnv s) hs h0s hg hr : HwI W4 w2 g cb ss m X sb cs.length cp (pnv s) B)) _) (ownFrom_below (Nat.le_refl _) (by omega)))
    (fun _ _ _ _ _ hs _ _ => hs)
    ⟨I0.out, B0.out⟩
    (fun x => { tmps := #[.agg #[.int .i64 xs.length, .int .i64 a0, .int .i64 a1, .int .i64 a2, .int .i64 a3, .int .i64 s0', .int .i64 s1, .int .i64 s2, .int .i64 s3, .int .i64 off, .int .i64 m, .int .i64 8, u], .agg #[.slice sa ss.length cap], .int .i64 8, .slice sx X.length cx, .pointer (some ⟨w.heap.size, 0, none⟩), .pointer (some ⟨w.heap.size + 1, 0, none⟩), undef, .pointer (some ⟨w.heap.size + 1 + 1, 0, none⟩), .pointer (some ⟨w.heap.size + 1 + 1 + 1, 0, none⟩), .pointer (some ⟨w2.heap.size, 0, none⟩), .pointer (some ⟨w2.heap.size + 1, 0, none⟩), .int .i64 x.1, .agg #[.int .i64 xs.length, .int .i64 a0, .int .i64 a1, .int .i64 a2, .int .i64 a3, .int .i64 s0', .int .i64 s1, .int .i64 s2, .int .i64 s3, .int .i64 off, .int .i64 m, .int .i64 8, u], .agg #[.slice sa ss.length cap], .int .i64 8, .agg #[.slice (some ⟨g, 0, none⟩) ss.length ss.length, .slice sb cs.length cp, .int .i64 8, .int .i64 8], .pointer (some ⟨w.heap.size, 0, none⟩), .agg #[.int .i64 xs.length, .int .i64 a0, .int .i64 a1, .int .i64 a2, .int .i64 a3, .int .i64 s0', .int .i64 s1, .int .i64 s2, .int .i64 s3, .int .i64 off], .func (.func 119) #[] #[.pointer (some ⟨w2.heap.size + 2, 0, none⟩)], .int .i64 x.1, undef, undef, undef, undef, undef, undef, undef, undef, undef, undef, undef], defers := [] }) ?assign ?body ?done ?stop
  case assign =>
    intro l x W K hK
    gi_wp2
    exact hK
  case body =>
    rintro l pre ⟨x, hx⟩ W ⟨hI, hB⟩ hlen
    obtain ⟨p, rfl⟩ : ∃ p : Nat, x = p := ⟨x.toNat, by omega⟩
    have hpl : p < cs.length := by omega
    obtain rfl := hsl.out.resolve_left (fun e => by rw [e] at hpl; simp at hpl)
    have hjX : pre.length < X.length := by omega
    have KXW := Bel.box hB KX.out
    have hBw : Bel w W := Bel.tr X0.out.bl hB
    obtain ⟨sx', cx', ex, hxr⟩ := HX.out
    injection ex with ex1 ex2 ex3
    subst ex1 ex3
    rw [fcells_len] at ex2
    rcases hxr with h0 | ⟨bx, ox, rfl, hxr⟩
    · have q0 : X.length = 0 := by rw [← fcells_len, h0]; rfl
      omega
    obtain ⟨t0, t1, t2⟩ := hxr pre.length (by rw [fcells_len]; exact hjX)
    rw [fcells_at X _ hjX] at t0 t1 t2
    have hbx := cell_lt t0
    have hcbm : W4.heap.size ≤ cb m ∧ g < cb m := by
      have q := hI.own.g_cb m (by rw [putS_len]; exact hm) (fun e => by
        have q1 := (putS_at ss m (pnv pre) X (pnv pre).length m).2.1
        rw [e, ← Hcs.out] at q1
        simp at q1; omega)
      have q2 := hI.own.lo_g
      omega
    have hxb := hXb pre.length
    generalize hxv : X.getD pre.length 0 = xv at t1 hxb
    have Hxv := hide hxv
    clear hxv
    have hni := hI.ni
    rw [pnv_len] at hni
    have SA : Hid ((fun w' : World => w'.cell? ⟨w2.heap.size, 0, none⟩ = some (.slice (some ⟨g, 0, none⟩) ss.length ss.length) ∧ w'.cell? ⟨w2.heap.size, 1, none⟩ = some (.slice (some ⟨cb m, 0, none⟩) cs.length cp) ∧ w'.cell? ⟨w2.heap.size, 2, none⟩ = some (.int .i64 8) ∧ w'.cell? ⟨w2.heap.size, 3, none⟩ = some (.int .i64 8) ∧ w'.cell? ⟨w.heap.size + 1 + 1, 0, none⟩ = some (.slice (some ⟨bx, ox, none⟩) X.length cx) ∧ w'.cell? ⟨w2.heap.size + 1, 0, none⟩ = some (.int .i64 pre.length) ∧ w'.cell? ⟨bx, ox + pre.length * 3, none⟩ = some (.int .i64 0) ∧ w'.cell? ⟨bx, ox + pre.length * 3 + 1, none⟩ = some (.float .f64 xv) ∧ w'.cell? ⟨bx, ox + pre.length * 3 + 2, none⟩ = some (.float .f64 0)) W.drew) := ⟨hI.d0, hI.d1, hI.d2, hI.d3, KXW, hni, Bel.box hBw t0, Bel.box hBw t1, Bel.box hBw t2⟩
    have hrow := hI.own.row m (by rw [putS_len]; exact hm) (fun e => by
        have q1 := (putS_at ss m (pnv pre) X (pnv pre).length m).2.1
        rw [e, ← Hcs.out] at q1
        simp at q1; omega)
    have hpr : p < ((putS ss m (pnv pre) X (pnv pre).length).getD m s0).2.length := by rw [(putS_at ss m (pnv pre) X (pnv pre).length m).2.1, ← Hcs.out]; exact hpl
    obtain ⟨y0, y1, y2⟩ := hrow p hpr
    rw [Nat.zero_add] at y0 y1 y2
    have hfr := hI.own.fzr m (by rw [putS_len]; exact hm) (fun e => by
        have q1 := (putS_at ss m (pnv pre) X (pnv pre).length m).2.1
        rw [e, ← Hcs.out] at q1
        simp at q1; omega)
    have HPT := hide (put_any (w := W.drew) (g := g) (n := ss.length) (n' := ss.length) (cp := cp) hpl hxb y0 y1 y2 hfr)
    have hj0 : (0 : Int) ≤ (pre.length : Int) := Int.natCast_nonneg _
    have hj1 : (pre.length : Int) < (X.length : Int) := by omega
    have hwW := hB.size
    have hnf := hI.nf
    have hd0 := cell_lt hI.ni
    have hcbl := cell_lt y0
    have HI := hide hI
    have HBB := hide hB
    have HBw := hide hBw
    have hgl := hI.own.g_lt
    have Ht0 := hide t0
    have Ht1 := hide t1
    have Ht2 := hide t2
    clear hrow y0 y1 y2 hfr hI hB hBw t0 t1 t2 hxr hpr
    gi_wp2
    refine region_in (S := (fun w' : World => w'.cell? ⟨w2.heap.size, 0, none⟩ = some (.slice (some ⟨g, 0, none⟩) ss.length ss.length) ∧ w'.cell? ⟨w2.heap.size, 1, none⟩ = some (.slice (some ⟨cb m, 0, none⟩) cs.length cp) ∧ w'.cell? ⟨w2.heap.size, 2, none⟩ = some (.int .i64 8) ∧ w'.cell? ⟨w2.heap.size, 3, none⟩ = some (.int .i64 8) ∧ w'.cell? ⟨w.heap.size + 1 + 1, 0, none⟩ = some (.slice (some ⟨bx, ox, none⟩) X.length cx) ∧ w'.cell? ⟨w2.heap.size + 1, 0, none⟩ = some (.int .i64 pre.length) ∧ w'.cell? ⟨bx, ox + pre.length * 3, none⟩ = some (.int .i64 0) ∧ w'.cell? ⟨bx, ox + pre.length * 3 + 1, none⟩ = some (.float .f64 xv) ∧ w'.cell? ⟨bx, ox + pre.length * 3 + 2, none⟩ = some (.float .f64 0))) (by kernel_rfl) (by rfl) ?_
    refine wpAnyH_take (i := 0) (v := .agg #[.slice (some ⟨g, 0, none⟩) ss.length ss.length, .slice (some ⟨cb m, 0, none⟩) cs.length cp, .int .i64 8, .int .i64 8]) rfl (by kernel_rfl) (by kernel_rfl) (by kernel_rfl) (fun _ _ _ h => by cases h.1) (Or.inl ⟨by rfl, ?_⟩) SA.out ?_
    · intro w' hSw
      obtain ⟨z0, z1, z2, z3, z4, z5, z6, z7, z8⟩ := hSw
      go_simp
    simp only [Act.put, List.setIfInBounds_toArray, List.set_cons_zero, List.set_cons_succ]
    refine wpAnyH_take (i := 1) (v := .int .i64 p) rfl (by kernel_rfl) (by kernel_rfl) (by kernel_rfl) (fun _ _ _ h => by cases h.1) (Or.inl ⟨by rfl, ?_⟩) SA.out ?_
    · intro w' hSw
      obtain ⟨z0, z1, z2, z3, z4, z5, z6, z7, z8⟩ := hSw
      go_simp
    simp only [Act.put, List.setIfInBounds_toArray, List.set_cons_zero, List.set_cons_succ]
    refine wpAnyH_take (i := 2) (v := .slice (some ⟨bx, ox, none⟩) X.length cx) rfl (by kernel_rfl) (by kernel_rfl) (by kernel_rfl) (fun _ _ _ h => by cases h.1) (Or.inl ⟨by rfl, ?_⟩) SA.out ?_
    · intro w' hSw
      obtain ⟨z0, z1, z2, z3, z4, z5, z6, z7, z8⟩ := hSw
      go_simp
    simp only [Act.put, List.setIfInBounds_toArray, List.set_cons_zero, List.set_cons_succ]
    refine wpAnyH_take (i := 3) (v := .int .i64 pre.length) rfl (by kernel_rfl) (by kernel_rfl) (by kernel_rfl) (fun _ _ _ h => by cases h.1) (Or.inl ⟨by rfl, ?_⟩) SA.out ?_
    · intro w' hSw
      obtain ⟨z0, z1, z2, z3, z4, z5, z6, z7, z8⟩ := hSw
      go_simp
    simp only [Act.put, List.setIfInBounds_toArray, List.set_cons_zero, List.set_cons_succ]
    refine wpAnyH_take (i := 4) (v := .pointer (some ⟨bx, ox + pre.length * 3, none⟩)) rfl (by kernel_rfl) (by kernel_rfl) (by kernel_rfl) (fun _ _ _ h => by cases h.1) (Or.inl ⟨by rfl, ?_⟩) SA.out ?_
    · intro w' hSw
      obtain ⟨z0, z1, z2, z3, z4, z5, z6, z7, z8⟩ := hSw
      go_simp
    simp only [Act.put, List.setIfInBounds_toArray, List.set_cons_zero, List.set_cons_succ]
    refine wpAnyH_take (i := 5) (v := .agg #[.int .i64 0, .float .f64 xv, .float .f64 0]) rfl (by kernel_rfl) (by kernel_rfl) (by kernel_rfl) (fun _ _ _ h => by cases h.1) (Or.inl ⟨by rfl, ?_⟩) SA.out ?_
    · intro w' hSw
      obtain ⟨z0, z1, z2, z3, z4, z5, z6, z7, z8⟩ := hSw
      go_simp
    simp only [Act.put, List.setIfInBounds_toArray, List.set_cons_zero, List.set_cons_succ]
    refine wpAnyH_ready (rs := [6]) (by kernel_rfl) (by simp) ?_
    refine AllReadyH.cons rfl (fun K hK => ?_) AllReadyH.nil
    go_simp
    refine HPT.out.mono ?_
    rintro e w3 ⟨rfl, w4, x4, rfl⟩
    have xx := (Ext.refl W).drew.trans x4
    have hcm := hcball.out m hm (by rw [← Hcs.out]; exact fun e => by rw [e] at hpl; simp at hpl)
    have S3 : Hid ((fun w' : World => w'.cell? ⟨w2.heap.size, 0, none⟩ = some (.slice (some ⟨g, 0, none⟩) ss.length ss.length) ∧ w'.cell? ⟨w2.heap.size, 1, none⟩ = some (.slice (some ⟨cb m, 0, none⟩) cs.length cp) ∧ w'.cell? ⟨w2.heap.size, 2, none⟩ = some (.int .i64 8) ∧ w'.cell? ⟨w2.heap.size, 3, none⟩ = some (.int .i64 8) ∧ w'.cell? ⟨w.heap.size + 1 + 1, 0, none⟩ = some (.slice (some ⟨bx, ox, none⟩) X.length cx) ∧ w'.cell? ⟨w2.heap.size + 1, 0, none⟩ = some (.int .i64 pre.length) ∧ w'.cell? ⟨bx, ox + pre.length * 3, none⟩ = some (.int .i64 0) ∧ w'.cell? ⟨bx, ox + pre.length * 3 + 1, none⟩ = some (.float .f64 xv) ∧ w'.cell? ⟨bx, ox + pre.length * 3 + 2, none⟩ = some (.float .f64 0)) (set3 w4 (cb m) (p * 3) xv)) := ⟨set3_box (by omega) (xx.box HI.out.d0), set3_box (by omega) (xx.box HI.out.d1), set3_box (by omega) (xx.box HI.out.d2), set3_box (by omega) (xx.box HI.out.d3), set3_box (by omega) (xx.box KXW), set3_box (by omega) (xx.box hni), set3_box (by omega) (xx.box (Bel.box HBw.out Ht0.out)), set3_box (by omega) (xx.box (Bel.box HBw.out Ht1.out)), set3_box (by omega) (xx.box (Bel.box HBw.out Ht2.out))⟩
    refine hK.out _ _ S3.out (fun _ => ?_)
    clear hK K
    try simp only [Act.put, List.setIfInBounds_toArray, List.set_cons_zero, List.set_cons_succ]
    refine wpAnyH_done (by kernel_rfl) ?_ _
    refine ⟨rfl, ?_⟩
    have c10 : (set3 w4 (cb m) (p * 3) xv).cell? ⟨w2.heap.size + 1, 0, none⟩ = some (.int .i64 pre.length) := S3.out.2.2.2.2.2.1
    have f10 : (set3 w4 (cb m) (p * 3) xv).frozen? ⟨w2.heap.size + 1, 0, none⟩ = false := (set3_fz _ _ _ _ _).trans ((xx.fz _).trans hnf)
    have HOW := hide (HOwn.far (o := 0) (v := .int .i64 (pre.length + 1)) (HOwn.put (x := xv) HI.out.own hm (p := p) (by rw [← Hcs.out]; exact hpl) rfl xx (by rw [pnv_len]; exact Hxv.out.symm)) (b := w2.heap.size + 1) (by have := hgw2.out; omega) (fun j hj hne => by
      rw [putS_len] at hj
      have := hcball.out j hj (fun e => hne (by rw [nil_len, (putS_at ss m _ X _ j).2.1, e]; simp))
      omega))
    have HEND : Hid (HwI W4 w2 g cb ss m X (some ⟨cb m, 0, none⟩) cs.length cp (pnv (pre ++ [⟨(p : Int), hx⟩])) ((set3 w4 (cb m) (p * 3) xv).setCell ⟨w2.heap.size + 1, 0, none⟩ (.int .i64 (pre.length + 1)))) := by
      have e1 : pnv (pre ++ [⟨(p : Int), hx⟩]) = pnv pre ++ [(p : Int)] := by rw [pnv_append]; rfl
      have e2 : (pnv pre ++ [(p : Int)]).length = (pnv pre).length + 1 := by simp
      show HwI W4 w2 g cb ss m X (some ⟨cb m, 0, none⟩) cs.length cp (pnv (pre ++ [⟨(p : Int), hx⟩])) _
      rw [e1]
      refine ⟨?_, nxt S3.out.1, nxt S3.out.2.1, nxt S3.out.2.2.1, nxt S3.out.2.2.2.1, ?_, ?_⟩
      · rw [e2]; exact HOW.out
      · rw [World.cell?_setCell_same _ _ _ c10, e2, pnv_len]; push_cast; rfl
      · rw [World.frozen?_setCell]; exact f10
    have HBE : Hid (Below W4.heap.size W4 ((set3 w4 (cb m) (p * 3) xv).setCell ⟨w2.heap.size + 1, 0, none⟩ (.int .i64 (pre.length + 1)))) := (set3_below (Bel.tr HBB.out xx.bl) hcbm.1 _ _).setCell (p := ⟨w2.heap.size + 1, 0, none⟩) (by show _ ≤ w2.heap.size + 1; omega) _
    have HKO := hide ((xx.others.trans (set3_others w4 (cb m) (p * 3) xv)).trans (KeepsOthers.setCell _ ⟨w2.heap.size + 1, 0, none⟩ (.int .i64 (pre.length + 1))))
    have HKC := hide (((xx.kc WV.heap.size).trans (set3_kc (n := WV.heap.size) (b := cb m) w4 (by omega) (p * 3) xv)).trans (KC.setCell _ (p := ⟨w2.heap.size + 1, 0, none⟩) (by show w2.heap.size + 1 < _; omega) (.int .i64 (pre.length + 1))))
    clear S3
    generalize set3 w4 (cb m) (p * 3) xv = W9 at *
    gi_wp2
    exact ⟨HKO.out, HKC.out, HEND.out, HBE.out⟩
  case done =>
    rintro D ys W hD hS ⟨hI, hB⟩ hK
    have c0 := hI.d0
    have kr := Bel.box hB KR.out
    have kf := (Below.frozen hB (p := ⟨w.heap.size + 3, 0, none⟩) (by show w.heap.size + 3 < _; omega)).trans FR.out
    have HI := hide hI
    have hBw := hide (Bel.tr X0.out.bl hB)
    have hDD := hD
    clear hI hB
    gi_wp2
    have hK' := (KeepsOthers.setCell W ⟨w.heap.size + 1 + 1 + 1, 0, none⟩ (.slice (some ⟨g, 0, none⟩) ss.length ss.length)).same D _ hK rfl
    refine ⟨by simp, .inl ⟨_, _, rfl, run_takeDeferred hK', ?_⟩⟩
    have hc5 := cell_kept (World.cell?_setCell_same' W ⟨w.heap.size + 1 + 1 + 1, 0, none⟩ (.slice (some ⟨g, 0, none⟩) ss.length ss.length) (by rw [show (⟨w.heap.size + 1 + 1 + 1, 0, none⟩ : Addr) = ⟨w.heap.size + 3, 0, none⟩ from rfl, kr]; rfl)) (grownBy_putObj' _ D (.deferred none)) (fun r e => by cases e; exact ⟨_, hK', rfl⟩)
    refine ⟨.agg #[.slice (some ⟨g, 0, none⟩) ss.length ss.length], ?_, g, cb, rfl, ?_, (hBw.out.setCell (p := ⟨w.heap.size + 1 + 1 + 1, 0, none⟩) (by show _ ≤ w.heap.size + 1 + 1 + 1; omega) _).trans (belowK_b (w := w) (Nat.le_refl _) _ D _ _ (by omega) hK' rfl rfl)⟩
    · simp [results, Tryz.results44, go_sem, hc5]
    · have q1 := HI.out.own
      rw [hS] at q1
      have q2 := HOwn.far (o := 0) (b := w.heap.size + 1 + 1 + 1) (v := .slice (some ⟨g, 0, none⟩) ss.length ss.length) q1 (by have := q1.lo_g; omega) (fun j hj hne => by
        have a1 := q1.g_cb j hj hne
        have a2 := q1.lo_g
        omega)
      exact ((q2.kept (by rw [putS_len]; exact h0s) (grownBy_putObj' _ D (.deferred none)) (fun r e => by cases e; exact ⟨_, hK', rfl⟩)).lower (by omega))
  case stop =>
    rintro D c pre W _ _ h _
    exact h.elim
end Go.Proofs.YtfhcpicddegblaaGreat
