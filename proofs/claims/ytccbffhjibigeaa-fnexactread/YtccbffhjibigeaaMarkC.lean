import Derived.Test.YtccbffhjibigeaaLawVA
import Derived.Test.YtccbffhjibigeaaMarks2
namespace Go.Proofs.Ytccbffhjibigeaa
open Go.ChangeShapes Go.RowKit FL Ieee
set_option linter.unusedSimpArgs false
set_option linter.unusedVariables false

theorem near_no (n : Int) : feq (floatOfInt FloatKind.f64 n) (floatOfInt FloatKind.f64 n) = true := by
  rw [feq_self]
  have h : nanD (floatOfInt FloatKind.f64 n) = false := by
    show nanW double (double.nearest (decide (n < 0)) n.natAbs 0) = false
    unfold nanW
    rw [decide_eq_false_iff_not]
    have e : ∃ r, r ≤ double.infRung ∧ double.nearest (decide (n < 0)) n.natAbs 0 = double.word (decide (n < 0)) r := by
      unfold Format.nearest
      split
      · exact ⟨0, Nat.zero_le _, rfl⟩
      · exact ⟨_, Nat.min_le_right _ _, rfl⟩
    obtain ⟨r, h1, h2⟩ := e
    rw [h2]
    unfold Format.word
    rw [dI] at *
    rw [dW]
    split <;> omega
  rw [h]; rfl
attribute [local go_sem] near_no
/-- What mark lays at place j. -/
def cmk (k : Int) (j : Nat) : C3 := (k + 3 * j, floatOfInt FloatKind.f64 (k + 3 * j + 1), floatOfInt FloatKind.f64 (k + 3 * j + 1 + 1))
def ccount (n : Nat) (k : Int) : List C3 := (List.range n).map (cmk k)
theorem ccount_len (n : Nat) (k : Int) : (ccount n k).length = n := by simp [ccount]
theorem ccount_getD (n : Nat) (k : Int) (j : Nat) (hj : j < n) : (ccount n k).getD j k0 = cmk k j := by simp [ccount, List.getD_eq_getElem?_getD, hj]
/-- There are cells. -/
def Ex (w : World) (g off n : Nat) : Prop := ∀ o, o < 3 * n → ∃ x, w.cell? ⟨g, off + o, none⟩ = some x
def KE (w w' : World) : Prop := ∀ b o x, w.cell? ⟨b, o, none⟩ = some x → ∃ y, w'.cell? ⟨b, o, none⟩ = some y
theorem KE.refl (w : World) : KE w w := fun b o x h => ⟨x, h⟩
theorem KE.trans {a b c : World} (h : KE a b) (g : KE b c) : KE a c := fun k o x hx => by
  obtain ⟨y, hy⟩ := h k o x hx
  exact g k o y hy
theorem KE.set {w w' : World} (h : KE w w') (p : Addr) (v : Value) : KE w (w'.setCell p v) := h.trans fun b o x hx => by
  by_cases e : p = ⟨b, o, none⟩
  · subst e; exact ⟨v, World.cell?_setCell_same _ _ _ hx⟩
  · exact ⟨x, by rw [World.cell?_setCell_other _ _ _ _ (by first | exact e | exact fun q => e q.symm)]; exact hx⟩
theorem Ex.ke {w w' : World} {g off n : Nat} (h : Ex w g off n) (x : KE w w') : Ex w' g off n := fun o ho => by
  obtain ⟨y, hy⟩ := h o ho
  exact x _ _ _ hy
theorem CRow.ex {w : World} {g off : Nat} {cs : List C3} (h : CRow w g off cs) : Ex w g off cs.length := fun o ho => by
  obtain ⟨a, b, c⟩ := h (o / 3) (by omega)
  have : o % 3 = 0 ∨ o % 3 = 1 ∨ o % 3 = 2 := by omega
  rcases this with e | e | e
  · rw [show off + o = off + o / 3 * 3 by omega]; exact ⟨_, a⟩
  · rw [show off + o = off + o / 3 * 3 + 1 by omega]; exact ⟨_, b⟩
  · rw [show off + o = off + o / 3 * 3 + 2 by omega]; exact ⟨_, c⟩
theorem crow_more {W : World} {g off j : Nat} {k : Int} {x0 x1 x2 : Value} (h : CRow W g off (ccount j k)) (q0 : W.cell? ⟨g, off + j * 3, none⟩ = some x0) (q1 : W.cell? ⟨g, off + j * 3 + 1, none⟩ = some x1) (q2 : W.cell? ⟨g, off + j * 3 + 2, none⟩ = some x2) :
    CRow (((W.setCell ⟨g, off + j * 3, none⟩ (.int .i64 (k + 3 * j))).setCell ⟨g, off + j * 3 + 1, none⟩ (.float .f64 (floatOfInt FloatKind.f64 (k + 3 * j + 1)))).setCell ⟨g, off + j * 3 + 2, none⟩ (.float .f64 (floatOfInt FloatKind.f64 (k + 3 * j + 1 + 1)))) g off (ccount (j + 1) k) := fun i hi => by
  rw [ccount_len] at hi
  rw [ccount_getD (j + 1) k i hi]
  by_cases e : i = j
  · subst e
    exact ⟨near (by omega) (near (by omega) (World.cell?_setCell_same _ _ _ q0)), near (by omega) (World.cell?_setCell_same _ _ _ (near (by omega) q1)), World.cell?_setCell_same _ _ _ (near (by omega) (near (by omega) q2))⟩
  · obtain ⟨a, b, c⟩ := h i (by rw [ccount_len]; omega)
    rw [ccount_getD j k i (by omega)] at a b c
    exact ⟨near (by omega) (near (by omega) (near (by omega) a)), near (by omega) (near (by omega) (near (by omega) b)), near (by omega) (near (by omega) (near (by omega) c))⟩

set_option maxRecDepth 100000 in
set_option maxHeartbeats 1000000 in
theorem markC_any {w : World} {g off n cap : Nat} (h : Ex w g off n) (hf : ∀ o, w.frozen? ⟨g, o, none⟩ = false) (k : Int) (hk : 0 ≤ k ∧ k ≤ 1000000000000000) (hl : n ≤ 1048576) :
    Calls Try.prog 21 #[.slice (some ⟨g, off, none⟩) n cap, .int .i64 k] w fun e w' => e = .returned (.int .i64 (k + 3 * n)) ∧ CRow w' g off (ccount n k) ∧ Mut g w w' ∧ KE w w' := by
  have H := hide h
  clear h
  go_enter Try.func21, Try.ntmps21
  go_wp2
  go_loopw [1, 5] (fun m i wr => ∃ j : Nat, i = .int .i64 j ∧ m = .int .i64 (k + 3 * j) ∧ j ≤ n ∧ CRow wr g off (ccount j k) ∧ Mut g w wr ∧ KE w wr) (fun m i _ => n - (intOf i).toNat)
  case atStart => exact ⟨0, rfl, by simp, by omega, fun j hj => by simp [ccount] at hj, Mut.refl _ _, KE.refl _⟩
  case round =>
    obtain ⟨j, rfl, rfl, hj, hr, hm, he⟩ := hrel
    have HR := hide hr
    have HM := hide hm
    have HE := hide he
    clear hr hm he
    by_cases hlt : j < n
    · obtain ⟨x0, q0⟩ := (H.out.ke HE.out) (j * 3) (by omega)
      obtain ⟨x1, q1⟩ := (H.out.ke HE.out) (j * 3 + 1) (by omega)
      obtain ⟨x2, q2⟩ := (H.out.ke HE.out) (j * 3 + 2) (by omega)
      rw [← Nat.add_assoc] at q1 q2
      have qf := fun o => (HM.out.fz ⟨g, o, none⟩).trans (hf o)
      have hj0 : (0 : Int) ≤ (j : Int) := Int.natCast_nonneg _
      have hj1 : (j : Int) < (n : Int) := by omega
      have HSt := hide (crow_more HR.out q0 q1 q2)
      have p1 : (wr.setCell ⟨g, off + j * 3, none⟩ (.int .i64 (k + 3 * j))).cell? ⟨g, off + j * 3 + 1, none⟩ = _ := near (by omega) q1
      have p2 : ((wr.setCell ⟨g, off + j * 3, none⟩ (.int .i64 (k + 3 * j))).setCell ⟨g, off + j * 3 + 1, none⟩ (.float .f64 (floatOfInt FloatKind.f64 (k + 3 * j + 1)))).cell? ⟨g, off + j * 3 + 2, none⟩ = _ := near (by omega) (near (by omega) q2)
      go_wp2
      go_roundw
      · exact ⟨j + 1, by go_num, by congr 1; push_cast; omega, by omega, HSt.out, ((HM.out.setCell _ _).setCell _ _).setCell _ _, ((HE.out.set _ _).set _ _).set _ _⟩
      · simp [intOf]; omega
    · have hjj : j = n := by omega
      subst hjj
      go_wp2
      go_ret
      exact ⟨rfl, HR.out, HM.out, HE.out⟩

set_option maxRecDepth 100000 in
set_option maxHeartbeats 1000000 in
theorem markC_nil {w : World} {sa : Option Addr} {cap : Nat} (k : Int) :
    Calls Try.prog 21 #[.slice sa 0 cap, .int .i64 k] w fun e w' => e = .returned (.int .i64 k) ∧ w' = w := by
  go_enter Try.func21, Try.ntmps21
  go_wp2
  go_loopw [1, 5] (fun m i wr => i = .int .i64 0 ∧ m = .int .i64 k ∧ wr = w) (fun m i _ => 0)
  case atStart => exact ⟨rfl, rfl, rfl⟩
  case round =>
    obtain ⟨rfl, rfl, rfl⟩ := hrel
    go_wp2
    go_ret
    exact ⟨rfl, rfl⟩

set_option maxRecDepth 100000 in
set_option maxHeartbeats 1000000 in
theorem heldC_any {w : World} {v : Value} {n : Nat} (k : Int) (h : CV w v (ccount n k)) (hk : 0 ≤ k ∧ k ≤ 1000000000000000) (hl : n ≤ 1048576) :
    Calls Try.prog 22 #[v, .int .i64 k] w fun e w' => e = .returned (.int .i64 (k + 3 * n)) ∧ Ext w w' := by
  obtain ⟨sa, cap, rfl, hx⟩ := h
  rw [ccount_len]
  have HX := hide hx
  clear hx
  go_enter Try.func22, Try.ntmps22
  go_wp2
  go_loopw [1, 5] (fun m i wr => ∃ j : Nat, i = .int .i64 j ∧ m = .int .i64 (k + 3 * j) ∧ j ≤ n ∧ Ext w wr) (fun m i _ => n - (intOf i).toNat)
  case atStart => exact ⟨0, rfl, by simp, by omega, Ext.refl w⟩
  case round =>
    obtain ⟨j, rfl, rfl, hj, hw⟩ := hrel
    have HW := hide hw
    clear hw
    by_cases hlt : j < n
    · rcases HX.out with h0 | ⟨b, off, rfl, hrow⟩
      · have := congrArg List.length h0
        rw [ccount_len] at this; simp at this; omega
      have hr := hrow j (by rw [ccount_len]; exact hlt)
      rw [ccount_getD n k j hlt] at hr
      have q0 : wr.cell? ⟨b, off + j * 3, none⟩ = some (.int .i64 (k + 3 * j)) := HW.out.box hr.1
      have q1 : wr.cell? ⟨b, off + j * 3 + 1, none⟩ = some (.float .f64 (floatOfInt FloatKind.f64 (k + 3 * j + 1))) := HW.out.box hr.2.1
      have q2 : wr.cell? ⟨b, off + j * 3 + 2, none⟩ = some (.float .f64 (floatOfInt FloatKind.f64 (k + 3 * j + 1 + 1))) := HW.out.box hr.2.2
      have n1 := near_no (k + 3 * j + 1)
      have n2 := near_no (k + 3 * j + 1 + 1)
      clear hrow hr
      have hj0 : (0 : Int) ≤ (j : Int) := Int.natCast_nonneg _
      have hj1 : (j : Int) < (n : Int) := by omega
      go_wp2
      go_roundw
      · exact ⟨j + 1, by go_num, by congr 1; push_cast; omega, by omega, HW.out⟩
      · simp [intOf]; omega
    · have hjj : j = n := by omega
      subst hjj
      go_wp2
      go_ret
      exact ⟨rfl, HW.out⟩
end Go.Proofs.Ytccbffhjibigeaa
