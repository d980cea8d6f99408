import Derived.Test.YtjjemnlknnnkbaaTEq
namespace Go.Proofs.Ytjjemnlknnnkbaa
open Go.ChangeShapes Go.RowKit Go.MuLone
set_option linter.unusedSimpArgs false
set_option linter.unusedVariables false

/-- What mark lays at turn j. -/
def tmk (k : Int) (j : Nat) : TurnL := (k + 3 * j, k + 3 * j + 1, (k + 3 * j + 1 + 1) % 3 == 0)
def tcount (n : Nat) (k : Int) : List TurnL := (List.range n).map (tmk k)
theorem tcount_len (n : Nat) (k : Int) : (tcount n k).length = n := by simp [tcount]
theorem tcount_getD (n : Nat) (k : Int) (j : Nat) (hj : j < n) : (tcount n k).getD j t0 = tmk k j := by simp [tcount, List.getD_eq_getElem?_getD, hj]
def tmarked (ts : List TurnL) (k : Int) (i : Nat) : List TurnL := tcount i k ++ ts.drop i
theorem tmarked_len (ts : List TurnL) (k : Int) (i : Nat) (hi : i ≤ ts.length) : (tmarked ts k i).length = ts.length := by
  unfold tmarked; simp [tcount_len]; omega
theorem tmarked_set (ts : List TurnL) (k : Int) (i : Nat) (hi : i < ts.length) : (tmarked ts k i).set i (tmk k i) = tmarked ts k (i + 1) := by
  unfold tmarked tcount
  apply List.ext_getElem?
  intro j
  simp only [List.getElem?_set, List.getElem?_append, List.length_append, List.length_map, List.length_range, List.length_drop, List.getElem?_map, List.getElem?_drop]
  by_cases e : i = j
  · subst e
    have : i + (ts.length - i) = ts.length := by omega
    simp [this, hi]
  · simp only [e, if_false]
    by_cases h : j < i
    · have : j < i + 1 := by omega
      simp [h, this]
    · have h3 : ¬ j < i + 1 := by omega
      have h5 : i + (j - i) = i + 1 + (j - (i + 1)) := by omega
      simp only [h, h3, if_false, h5]
theorem tmarked_zero (ts : List TurnL) (k : Int) : tmarked ts k 0 = ts := by simp [tmarked, tcount]
theorem tmarked_full (ts : List TurnL) (k : Int) : tmarked ts k ts.length = tcount ts.length k := by simp [tmarked]
theorem tget_set (ts : List TurnL) (i : Nat) (t : TurnL) (j : Nat) (hi : i < ts.length) : (ts.set i t).getD j t0 = if i = j then t else ts.getD j t0 := by
  rw [List.getD_eq_getElem?_getD, List.getElem?_set, List.getD_eq_getElem?_getD]
  by_cases e : i = j
  · subst e; simp [hi]
  · simp [e]
theorem TRow.set {w : World} {g : Nat} {ts : List TurnL} (h : TRow w g ts) (i : Nat) (hi : i < ts.length) (t : TurnL) :
    TRow (((w.setCell ⟨g, i * 3, none⟩ (.int .i64 t.1)).setCell ⟨g, i * 3 + 1, none⟩ (.int .i64 t.2.1)).setCell ⟨g, i * 3 + 2, none⟩ (.bool t.2.2)) g (ts.set i t) := fun j hj => by
  rw [List.length_set] at hj
  rw [tget_set ts i t j hi]
  obtain ⟨a, b, c⟩ := h j hj
  by_cases e : i = j
  · subst e
    rw [if_pos rfl]
    exact ⟨near (by omega) (near (by omega) (World.cell?_setCell_same _ _ _ a)), near (by omega) (World.cell?_setCell_same _ _ _ (near (by omega) b)), World.cell?_setCell_same _ _ _ (near (by omega) (near (by omega) c))⟩
  · rw [if_neg e]
    exact ⟨near (by omega) (near (by omega) (near (by omega) a)), near (by omega) (near (by omega) (near (by omega) b)), near (by omega) (near (by omega) (near (by omega) c))⟩

set_option maxRecDepth 100000 in
set_option maxHeartbeats 1000000 in
theorem markTurns_any {w : World} {g cap : Nat} {ts : List TurnL} (h : TRow w g ts) (hf : ∀ o, w.frozen? ⟨g, o, none⟩ = false) (k : Int) (hk : 0 ≤ k ∧ k ≤ 1000000) (hl : ts.length ≤ 8192) :
    Calls Try.prog 18 #[.slice (some ⟨g, 0, none⟩) ts.length cap, .int .i64 k] w fun e w' => e = .returned (.int .i64 (k + 3 * ts.length)) ∧ TRow w' g (tcount ts.length k) ∧ Mut g w w' := by
  have H := hide h
  clear h
  go_enter Try.func18, Try.ntmps18
  go_wp2
  go_loopw [1, 5] (fun m i wr => ∃ j : Nat, i = .int .i64 j ∧ m = .int .i64 (k + 3 * j) ∧ j ≤ ts.length ∧ TRow wr g (tmarked ts k j) ∧ Mut g w wr) (fun m i _ => ts.length - (intOf i).toNat)
  case atStart => exact ⟨0, rfl, by simp, by omega, by rw [tmarked_zero]; exact H.out, Mut.refl _ _⟩
  case round =>
    obtain ⟨j, rfl, rfl, hj, hr, hm⟩ := hrel
    have HR := hide hr
    have HM := hide hm
    clear hr hm
    by_cases hlt : j < ts.length
    · have hml : j < (tmarked ts k j).length := by rw [tmarked_len ts k j hj]; exact hlt
      obtain ⟨q0, q1, q2⟩ := HR.out j hml
      have qf := fun o => (HM.out.fz ⟨g, o, none⟩).trans (hf o)
      have hj0 : (0 : Int) ≤ (j : Int) := Int.natCast_nonneg _
      have hj1 : (j : Int) < (ts.length : Int) := by omega
      have St := HR.out.set j hml (tmk k j)
      rw [tmarked_set ts k j hlt] at St
      have HSt := hide St
      clear St
      have p1 : (wr.setCell ⟨g, j * 3, none⟩ (.int .i64 (k + 3 * j))).cell? ⟨g, j * 3 + 1, none⟩ = _ := near (by omega) q1
      have p2 : ((wr.setCell ⟨g, j * 3, none⟩ (.int .i64 (k + 3 * j))).setCell ⟨g, j * 3 + 1, none⟩ (.int .i64 (k + 3 * j + 1))).cell? ⟨g, j * 3 + 2, none⟩ = _ := near (by omega) (near (by omega) q2)
      generalize ((tmarked ts k j).getD j t0).1 = A at q0
      generalize ((tmarked ts k j).getD j t0).2.1 = B at q1 p1
      generalize ((tmarked ts k j).getD j t0).2.2 = C at q2 p2
      go_wp2
      go_roundw
      · exact ⟨j + 1, by go_num, by congr 1; push_cast; omega, by omega, HSt.out, ((HM.out.setCell _ _).setCell _ _).setCell _ _⟩
      · simp [intOf]; omega
    · have hjj : j = ts.length := by omega
      subst hjj
      go_wp2
      go_ret
      refine ⟨rfl, ?_, HM.out⟩
      have := HR.out
      rw [tmarked_full] at this
      exact this

set_option maxRecDepth 100000 in
set_option maxHeartbeats 1000000 in
theorem markTurns_nil {w : World} {sa : Option Addr} {cap : Nat} (k : Int) :
    Calls Try.prog 18 #[.slice sa 0 cap, .int .i64 k] w fun e w' => e = .returned (.int .i64 k) ∧ w' = w := by
  go_enter Try.func18, Try.ntmps18
  go_wp2
  go_loopw [1, 5] (fun m i wr => i = .int .i64 0 ∧ m = .int .i64 k ∧ wr = w) (fun m i _ => 0)
  case atStart => exact ⟨rfl, rfl, rfl⟩
  case round =>
    obtain ⟨rfl, rfl, rfl⟩ := hrel
    go_wp2
    go_ret
    exact ⟨rfl, rfl⟩

set_option maxRecDepth 100000 in
set_option maxHeartbeats 1000000 in
theorem heldTurns_any {w : World} {v : Value} {n : Nat} (k : Int) (h : TurnsV w v (tcount n k)) (hk : 0 ≤ k ∧ k ≤ 1000000) (hl : n ≤ 8192) :
    Calls Try.prog 19 #[v, .int .i64 k] w fun e w' => e = .returned (.int .i64 (k + 3 * n)) ∧ Ext w w' := by
  obtain ⟨sa, cap, rfl, hx⟩ := h
  rw [tcount_len]
  have HX := hide hx
  clear hx
  go_enter Try.func19, Try.ntmps19
  go_wp2
  go_loopw [1, 5] (fun m i wr => ∃ j : Nat, i = .int .i64 j ∧ m = .int .i64 (k + 3 * j) ∧ j ≤ n ∧ Ext w wr) (fun m i _ => n - (intOf i).toNat)
  case atStart => exact ⟨0, rfl, by simp, by omega, Ext.refl w⟩
  case round =>
    obtain ⟨j, rfl, rfl, hj, hw⟩ := hrel
    have HW := hide hw
    clear hw
    by_cases hlt : j < n
    · rcases HX.out with h0 | ⟨b, rfl, hrow⟩
      · have := congrArg List.length h0
        rw [tcount_len] at this; simp at this; omega
      have hr := hrow j (by rw [tcount_len]; exact hlt)
      rw [tcount_getD n k j hlt] at hr
      have q0 : wr.cell? ⟨b, j * 3, none⟩ = some (.int .i64 (k + 3 * j)) := HW.out.box hr.1
      have q1 : wr.cell? ⟨b, j * 3 + 1, none⟩ = some (.int .i64 (k + 3 * j + 1)) := HW.out.box hr.2.1
      have q2 : wr.cell? ⟨b, j * 3 + 2, none⟩ = some (.bool ((k + 3 * j + 1 + 1) % 3 == 0)) := HW.out.box hr.2.2
      clear hrow hr
      have hj0 : (0 : Int) ≤ (j : Int) := Int.natCast_nonneg _
      have hj1 : (j : Int) < (n : Int) := by omega
      go_wp2
      go_roundw
      · exact ⟨j + 1, by go_num, by congr 1; push_cast; omega, by omega, HW.out⟩
      · simp [intOf]; omega
    · have hjj : j = n := by omega
      subst hjj
      go_wp2
      go_ret
      exact ⟨rfl, HW.out⟩
end Go.Proofs.Ytjjemnlknnnkbaa
