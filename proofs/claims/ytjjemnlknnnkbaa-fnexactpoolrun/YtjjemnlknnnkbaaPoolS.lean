import Derived.Test.YtjjemnlknnnkbaaPoolR
namespace Go.Proofs.Ytjjemnlknnnkbaa
open Go.ChangeShapes Go.RowKit Go.MuLone
set_option linter.unusedSimpArgs false
set_option linter.unusedVariables false

/-- What mark lays at place j. -/
def pmk (k : Int) (j : Nat) : P3 := (k + 3 * j, k + 3 * j + 1, k + 3 * j + 1 + 1)
def pcount (n : Nat) (k : Int) : List P3 := (List.range n).map (pmk k)
theorem pcount_len (n : Nat) (k : Int) : (pcount n k).length = n := by simp [pcount]
theorem pcount_getD (n : Nat) (k : Int) (j : Nat) (hj : j < n) : (pcount n k).getD j p0 = pmk k j := by simp [pcount, List.getD_eq_getElem?_getD, hj]
def pmarked (ts : List P3) (k : Int) (i : Nat) : List P3 := pcount i k ++ ts.drop i
theorem pmarked_len (ts : List P3) (k : Int) (i : Nat) (hi : i ≤ ts.length) : (pmarked ts k i).length = ts.length := by
  unfold pmarked; simp [pcount_len]; omega
theorem pmarked_set (ts : List P3) (k : Int) (i : Nat) (hi : i < ts.length) : (pmarked ts k i).set i (pmk k i) = pmarked ts k (i + 1) := by
  unfold pmarked pcount
  apply List.ext_getElem?
  intro j
  simp only [List.getElem?_set, List.getElem?_append, List.length_append, List.length_map, List.length_range, List.length_drop, List.getElem?_map, List.getElem?_drop]
  by_cases e : i = j
  · subst e
    have : i + (ts.length - i) = ts.length := by omega
    simp [this, hi]
  · simp only [e, if_false]
    by_cases h : j < i
    · have : j < i + 1 := by omega
      simp [h, this]
    · have h3 : ¬ j < i + 1 := by omega
      have h5 : i + (j - i) = i + 1 + (j - (i + 1)) := by omega
      simp only [h, h3, if_false, h5]
theorem pmarked_zero (ts : List P3) (k : Int) : pmarked ts k 0 = ts := by simp [pmarked, pcount]
theorem pmarked_full (ts : List P3) (k : Int) : pmarked ts k ts.length = pcount ts.length k := by simp [pmarked]

set_option maxRecDepth 100000 in
set_option maxHeartbeats 1000000 in
theorem markOps_any {w : World} {g off cap : Nat} {ts : List P3} (h : PRow w g off ts) (hf : ∀ o, w.frozen? ⟨g, o, none⟩ = false) (k : Int) (hk : 0 ≤ k ∧ k ≤ 1000000) (hl : ts.length ≤ 1048576) :
    Calls Try.prog 24 #[.slice (some ⟨g, off, none⟩) ts.length cap, .int .i64 k] w fun e w' => e = .returned (.int .i64 (k + 3 * ts.length)) ∧ PRow w' g off (pcount ts.length k) ∧ Mut g w w' := by
  have H := hide h
  clear h
  go_enter Try.func24, Try.ntmps24
  go_wp2
  go_loopw [1, 5] (fun m i wr => ∃ j : Nat, i = .int .i64 j ∧ m = .int .i64 (k + 3 * j) ∧ j ≤ ts.length ∧ PRow wr g off (pmarked ts k j) ∧ Mut g w wr) (fun m i _ => ts.length - (intOf i).toNat)
  case atStart => exact ⟨0, rfl, by simp, by omega, by rw [pmarked_zero]; exact H.out, Mut.refl _ _⟩
  case round =>
    obtain ⟨j, rfl, rfl, hj, hr, hm⟩ := hrel
    have HR := hide hr
    have HM := hide hm
    clear hr hm
    by_cases hlt : j < ts.length
    · have hml : j < (pmarked ts k j).length := by rw [pmarked_len ts k j hj]; exact hlt
      obtain ⟨q0, q1, q2⟩ := HR.out j hml
      have qf := fun o => (HM.out.fz ⟨g, o, none⟩).trans (hf o)
      have hj0 : (0 : Int) ≤ (j : Int) := Int.natCast_nonneg _
      have hj1 : (j : Int) < (ts.length : Int) := by omega
      have St := HR.out.set j hml (pmk k j)
      rw [pmarked_set ts k j hlt] at St
      have HSt := hide St
      clear St
      have p1 : (wr.setCell ⟨g, off + j * 3, none⟩ (.int .i64 (k + 3 * j))).cell? ⟨g, off + j * 3 + 1, none⟩ = _ := near (by omega) q1
      have p2 : ((wr.setCell ⟨g, off + j * 3, none⟩ (.int .i64 (k + 3 * j))).setCell ⟨g, off + j * 3 + 1, none⟩ (.int .i64 (k + 3 * j + 1))).cell? ⟨g, off + j * 3 + 2, none⟩ = _ := near (by omega) (near (by omega) q2)
      generalize ((pmarked ts k j).getD j p0).1 = A at q0
      generalize ((pmarked ts k j).getD j p0).2.1 = B at q1 p1
      generalize ((pmarked ts k j).getD j p0).2.2 = C at q2 p2
      go_wp2
      go_roundw
      · exact ⟨j + 1, by go_num, by congr 1; push_cast; omega, by omega, HSt.out, ((HM.out.setCell _ _).setCell _ _).setCell _ _⟩
      · simp [intOf]; omega
    · have hjj : j = ts.length := by omega
      subst hjj
      go_wp2
      go_ret
      refine ⟨rfl, ?_, HM.out⟩
      have := HR.out
      rw [pmarked_full] at this
      exact this

set_option maxRecDepth 100000 in
set_option maxHeartbeats 1000000 in
theorem markOps_nil {w : World} {sa : Option Addr} {cap : Nat} (k : Int) :
    Calls Try.prog 24 #[.slice sa 0 cap, .int .i64 k] w fun e w' => e = .returned (.int .i64 k) ∧ w' = w := by
  go_enter Try.func24, Try.ntmps24
  go_wp2
  go_loopw [1, 5] (fun m i wr => i = .int .i64 0 ∧ m = .int .i64 k ∧ wr = w) (fun m i _ => 0)
  case atStart => exact ⟨rfl, rfl, rfl⟩
  case round =>
    obtain ⟨rfl, rfl, rfl⟩ := hrel
    go_wp2
    go_ret
    exact ⟨rfl, rfl⟩

set_option maxRecDepth 100000 in
set_option maxHeartbeats 1000000 in
theorem markAns_any {w : World} {g off cap : Nat} {ts : List P3} (h : PRow w g off ts) (hf : ∀ o, w.frozen? ⟨g, o, none⟩ = false) (k : Int) (hk : 0 ≤ k ∧ k ≤ 1000000) (hl : ts.length ≤ 1048576) :
    Calls Try.prog 25 #[.slice (some ⟨g, off, none⟩) ts.length cap, .int .i64 k] w fun e w' => e = .returned (.int .i64 (k + 3 * ts.length)) ∧ PRow w' g off (pcount ts.length k) ∧ Mut g w w' := by
  have H := hide h
  clear h
  go_enter Try.func25, Try.ntmps25
  go_wp2
  go_loopw [1, 5] (fun m i wr => ∃ j : Nat, i = .int .i64 j ∧ m = .int .i64 (k + 3 * j) ∧ j ≤ ts.length ∧ PRow wr g off (pmarked ts k j) ∧ Mut g w wr) (fun m i _ => ts.length - (intOf i).toNat)
  case atStart => exact ⟨0, rfl, by simp, by omega, by rw [pmarked_zero]; exact H.out, Mut.refl _ _⟩
  case round =>
    obtain ⟨j, rfl, rfl, hj, hr, hm⟩ := hrel
    have HR := hide hr
    have HM := hide hm
    clear hr hm
    by_cases hlt : j < ts.length
    · have hml : j < (pmarked ts k j).length := by rw [pmarked_len ts k j hj]; exact hlt
      obtain ⟨q0, q1, q2⟩ := HR.out j hml
      have qf := fun o => (HM.out.fz ⟨g, o, none⟩).trans (hf o)
      have hj0 : (0 : Int) ≤ (j : Int) := Int.natCast_nonneg _
      have hj1 : (j : Int) < (ts.length : Int) := by omega
      have St := HR.out.set j hml (pmk k j)
      rw [pmarked_set ts k j hlt] at St
      have HSt := hide St
      clear St
      have p1 : (wr.setCell ⟨g, off + j * 3, none⟩ (.int .i64 (k + 3 * j))).cell? ⟨g, off + j * 3 + 1, none⟩ = _ := near (by omega) q1
      have p2 : ((wr.setCell ⟨g, off + j * 3, none⟩ (.int .i64 (k + 3 * j))).setCell ⟨g, off + j * 3 + 1, none⟩ (.int .i64 (k + 3 * j + 1))).cell? ⟨g, off + j * 3 + 2, none⟩ = _ := near (by omega) (near (by omega) q2)
      generalize ((pmarked ts k j).getD j p0).1 = A at q0
      generalize ((pmarked ts k j).getD j p0).2.1 = B at q1 p1
      generalize ((pmarked ts k j).getD j p0).2.2 = C at q2 p2
      go_wp2
      go_roundw
      · exact ⟨j + 1, by go_num, by congr 1; push_cast; omega, by omega, HSt.out, ((HM.out.setCell _ _).setCell _ _).setCell _ _⟩
      · simp [intOf]; omega
    · have hjj : j = ts.length := by omega
      subst hjj
      go_wp2
      go_ret
      refine ⟨rfl, ?_, HM.out⟩
      have := HR.out
      rw [pmarked_full] at this
      exact this

set_option maxRecDepth 100000 in
set_option maxHeartbeats 1000000 in
theorem markAns_nil {w : World} {sa : Option Addr} {cap : Nat} (k : Int) :
    Calls Try.prog 25 #[.slice sa 0 cap, .int .i64 k] w fun e w' => e = .returned (.int .i64 k) ∧ w' = w := by
  go_enter Try.func25, Try.ntmps25
  go_wp2
  go_loopw [1, 5] (fun m i wr => i = .int .i64 0 ∧ m = .int .i64 k ∧ wr = w) (fun m i _ => 0)
  case atStart => exact ⟨rfl, rfl, rfl⟩
  case round =>
    obtain ⟨rfl, rfl, rfl⟩ := hrel
    go_wp2
    go_ret
    exact ⟨rfl, rfl⟩

set_option maxRecDepth 100000 in
set_option maxHeartbeats 1000000 in
theorem heldAns_any {w : World} {v : Value} {n : Nat} (k : Int) (h : PV w v (pcount n k)) (hk : 0 ≤ k ∧ k ≤ 1000000) (hl : n ≤ 1048576) :
    Calls Try.prog 26 #[v, .int .i64 k] w fun e w' => e = .returned (.int .i64 (k + 3 * n)) ∧ Ext w w' := by
  obtain ⟨sa, cap, rfl, hx⟩ := h
  rw [pcount_len]
  have HX := hide hx
  clear hx
  go_enter Try.func26, Try.ntmps26
  go_wp2
  go_loopw [1, 5] (fun m i wr => ∃ j : Nat, i = .int .i64 j ∧ m = .int .i64 (k + 3 * j) ∧ j ≤ n ∧ Ext w wr) (fun m i _ => n - (intOf i).toNat)
  case atStart => exact ⟨0, rfl, by simp, by omega, Ext.refl w⟩
  case round =>
    obtain ⟨j, rfl, rfl, hj, hw⟩ := hrel
    have HW := hide hw
    clear hw
    by_cases hlt : j < n
    · rcases HX.out with h0 | ⟨b, off, rfl, hrow⟩
      · have := congrArg List.length h0
        rw [pcount_len] at this; simp at this; omega
      have hr := hrow j (by rw [pcount_len]; exact hlt)
      rw [pcount_getD n k j hlt] at hr
      have q0 : wr.cell? ⟨b, off + j * 3, none⟩ = some (.int .i64 (k + 3 * j)) := HW.out.box hr.1
      have q1 : wr.cell? ⟨b, off + j * 3 + 1, none⟩ = some (.int .i64 (k + 3 * j + 1)) := HW.out.box hr.2.1
      have q2 : wr.cell? ⟨b, off + j * 3 + 2, none⟩ = some (.int .i64 (k + 3 * j + 1 + 1)) := HW.out.box hr.2.2
      clear hrow hr
      have hj0 : (0 : Int) ≤ (j : Int) := Int.natCast_nonneg _
      have hj1 : (j : Int) < (n : Int) := by omega
      go_wp2
      go_roundw
      · exact ⟨j + 1, by go_num, by congr 1; push_cast; omega, by omega, HW.out⟩
      · simp [intOf]; omega
    · have hjj : j = n := by omega
      subst hjj
      go_wp2
      go_ret
      exact ⟨rfl, HW.out⟩

set_option maxRecDepth 100000 in
theorem szOps_any (w : World) (sa : Option Addr) (n cap : Nat) (left : Int) (hl : 0 ≤ left ∧ left ≤ 1048576) (hn : (n : Int) ≤ 9223372036854775807) :
    Calls Try.prog 20 #[.slice sa n cap, .int .i64 left] w fun e w' => e = .returned (.int .i64 (if left - n < 0 then -1 else left - n)) ∧ w' = w := by
  by_cases h : left - (n : Int) < 0
  · rw [if_pos h]
    go_enter Try.func20, Try.ntmps20
    go_wp2
    go_ret
    exact ⟨rfl, rfl⟩
  · rw [if_neg h]
    go_enter Try.func20, Try.ntmps20
    go_wp2
    go_ret
    exact ⟨rfl, rfl⟩
end Go.Proofs.Ytjjemnlknnnkbaa
