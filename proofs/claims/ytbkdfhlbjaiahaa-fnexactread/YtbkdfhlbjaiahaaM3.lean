import Derived.Test.YtbkdfhlbjaiahaaM2
import Derived.Test.YtbkdfhlbjaiahaaSpecVV
import Derived.Test.YtbkdfhlbjaiahaaM1
import Derived.Deep.RegionWith
import Derived.Deep.RegionHeld3
import Derived.Deep.RegionHeldLaw
import Derived.Maps.AppendAt
namespace Go.Proofs.Ytbkdfhlbjaiahaa
open Go.ChangeShapes Go.RowKit
set_option linter.unusedSimpArgs false
set_option linter.unusedVariables false

theorem list_nil {w w' : World} {L : List Int} (h : L = []) (sa : Option Addr) (cap : Nat) (hB : Below w.heap.size w w') : ListOk w L (.returned (.slice sa 0 cap)) w' := by
  subst h
  exact ⟨sa, cap, rfl, Or.inl rfl, hB⟩
theorem ListOk.from {w w1 w' : World} {L : List Int} {e : Ending} (hB : Below w.heap.size w w1) (h : ListOk w1 L e w') : ListOk w L e w' := by
  obtain ⟨sa, cap, h1, h2, h3⟩ := h
  refine ⟨sa, cap, h1, ?_, hB.trans (h3.mono hB.size)⟩
  rcases h2 with h2 | ⟨g, h4, h5, h6⟩
  · exact Or.inl h2
  · exact Or.inr ⟨g, h4, Nat.le_trans hB.size h5, h6⟩

set_option maxRecDepth 100000 in
set_option maxHeartbeats 1000000 in
/-- l2Offsets. -/
theorem l2Offsets_any {w : World} {vS vT : Value} {xs ss : List Int} (hS : Ints w vS xs) (hT : Ints w vT ss) (off : Int) (hv : ValidV xs ss off) :
    Calls Try.prog 51 #[.agg #[vS, vT, .int .i64 off]] w fun e w' => ListOk w (offsL xs ss off) e w' := by
  obtain ⟨hg, hl, ho, hin, _⟩ := hv
  have x0 : Ext w (w.alloc (.cells #[vS, vT, .int .i64 off] 40)) := (Ext.refl w).alloc _ _
  have X0 := hide x0.bl
  have HS := hide (hS.ext x0)
  have HT := hide (hT.ext x0)
  have n1 := fun j => new_cell w #[vS, vT, .int .i64 off] 40 w.heap.size rfl j
  have k0 := n1 0
  have k1 := n1 1
  have k2 := n1 2
  clear n1 x0
  obtain ⟨sa, cap, rfl, _⟩ := hS
  obtain ⟨ta, dap, rfl, _⟩ := hT
  have hcn : cntL xs = prod xs := if_pos hg
  have hx4 := hg.1
  have hpb := prod_bd xs xs.length hg.1 (Nat.le_refl _) hg.2.1
  rw [List.take_length] at hpb
  have hOz : Hid (prod xs = 0 → offsL xs ss off = []) := fun h => by unfold offsL; rw [if_pos h]
  have hpl : Hid (prod xs ≠ 0 → ∀ w, Ints w (.slice sa xs.length cap) xs → Ints w (.slice ta ss.length dap) ss → Calls Try.prog 70 #[.agg #[.slice sa xs.length cap, .slice ta ss.length dap, .int .i64 off], .int .i64 0, .int .i64 off] w fun e w' => ListOk w (offsL xs ss off) e w') := fun hz w h1 h2 => by
    have hst : ∀ s ∈ ss, -4096 ≤ s ∧ s ≤ 4096 := fun s hs => by
      obtain ⟨j, hj, rfl⟩ := getD_mem hs
      exact hin j hj
    have hpln : plen xs ≤ 4096 := by
      have h1 := prod_plen (fun m hm => (good_nonneg hg m hm).1)
      have h2 := hg.2.2
      omega
    have key := places_any xs ss hl.symm hx4 (good_pos hg hz) hst off _ _ xs.length 0 (by omega) w off h1 h2 (by rw [List.drop_zero]; exact hpln) (by omega)
    rw [List.drop_zero, List.drop_zero] at key
    unfold offsL
    rw [if_neg hz]
    exact key
  have Hcnt := hide (l2Count_any HS.out (by omega))
  rw [hcn] at Hcnt
  have Hg := hide hg
  clear hg hcn hin hl
  go_enter Try.func51, Try.ntmps51
  go_wp2_with fail
  generalize hW0 : w.alloc (.cells #[.slice sa xs.length cap, .slice ta ss.length dap, .int .i64 off] 40) = W0 at X0 HS HT k0 k1 k2 Hcnt ⊢
  clear hW0
  refine Hcnt.out.mono ?_
  clear Hcnt
  rintro e w' ⟨rfl, rfl⟩
  generalize prod xs = P at *
  by_cases hz : P = 0
  · have HO := hide (hOz.out hz)
    subst hz
    clear hpl hOz
    go_wp2
    go_ret
    exact list_nil HO.out _ _ (by first | exact X0.out | exact X0.out.alloc X0.out.size _)
  · have HP := hide (hpl.out hz _ HS.out HT.out)
    have hPn : (P == 0) = false := by simp [hz]
    clear hpl hOz
    go_wp2_with (go_at_call 70; refine HP.out.mono ?_; intro e w2 hok; obtain ⟨sa2, cap2, rfl, hok2⟩ := hok)
    go_ret
    exact ListOk.from X0.out ⟨sa2, cap2, rfl, hok2⟩

/-- The answer of Offsets. -/
def offsA (xs ss : List Int) (off : Int) : List Int := if ValidV xs ss off then offsL xs ss off else []

end Go.Proofs.Ytbkdfhlbjaiahaa
namespace Go.Proofs.Ytbkdfhlbjaiahaa
open Go.RowKit FL
set_option linter.unusedSimpArgs false
set_option linter.unusedVariables false

theorem same_zero (f : Nat) (h : B64 f) : sameB f 0 = pzB f := by
  unfold B64 at h
  unfold sameB pzB
  rw [nan_zero]
  cases e : nanD f
  · simp
  · have := (nanD_iff f).1 e
    have h0 : f ≠ 0 := by omega
    simp [h0]
theorem same_self (f : Nat) : sameB f f = true := by
  unfold sameB; cases nanD f <;> simp
theorem same_single (f r : Nat) (hf : B64 f) (h : SingleR f r) : sameB r f = sngB f := by
  cases hs : sngB f
  · have h1 := singR_not hf h hs
    unfold sameB
    rw [h1.1]
    cases hr : nanD r
    · have : r ≠ f := fun e => by
        have h2 := h1.2
        rw [e, feq_self, h1.1] at h2; cases h2
      simp [this]
    · simp
  · rcases singR_same h hs with ⟨h1, h2⟩ | ⟨h1, h2⟩
    · unfold sameB; rw [h1, h2]; rfl
    · rw [h2]; exact same_self f
theorem B64_single {f r : Nat} (h : SingleR f r) : B64 r := h.1
theorem B64_0 : B64 0 := by unfold B64; omega

set_option maxHeartbeats 1000000 in
theorem sValid_int (dt i : Int) (f g : Nat) (h : 1 ≤ dt ∧ dt ≤ 6) (hf : B64 f) (hg : B64 g) (w : World) :
    Calls Try.prog 25 #[.int .i64 dt, .agg #[.int .i64 i, .float .f64 f, .float .f64 g]] w fun e w' => e = .returned (.bool (rngB dt i && pzB f && pzB g)) ∧ Ext w w' := by
  have hd : isDtB dt = true := by unfold isDtB; simp; omega
  have hb0 := B64_0
  have sf := same_zero f hf
  have sg := same_zero g hg
  have hk : skindL dt = 0 ∨ skindL dt = 1 := by unfold skindL; omega
  have hr : rngB dt i = (decide (lowL dt ≤ i) && decide (i ≤ highL dt)) := by
    unfold rngB
    rw [Bool.eq_iff_iff]; simp
  rw [hr]
  clear hr h
  rcases hk with hk | hk
  all_goals
    by_cases h0 : lowL dt ≤ i <;> by_cases h1 : i ≤ highL dt <;> cases h2 : pzB f
    all_goals
      rw [h2] at sf
      first | rw [decide_eq_true h0] | rw [decide_eq_false h0]
      first | rw [decide_eq_true h1] | rw [decide_eq_false h1]
      first | have d0 : decide (lowL dt ≤ i) = true := decide_eq_true h0 | (have d0 : decide (lowL dt ≤ i) = false := decide_eq_false h0)
      first | have d1 : decide (i ≤ highL dt) = true := decide_eq_true h1 | (have d1 : decide (i ≤ highL dt) = false := decide_eq_false h1)
      go_enter Try.func25, Try.ntmps25
      go_wp2_with (first | (go_at_call 24; refine (l1IsDType_any _ _).mono ?_; rintro e w' ⟨rfl, rfl⟩) | (go_at_call 40; refine (l1Kind_any _ _).mono ?_; rintro e w' ⟨rfl, rfl⟩))
      go_quiet (first | (go_at_call 41; exact Calls.quiet_of_same (l1Low_any _ _)) | (go_at_call 42; exact Calls.quiet_of_same (l1High_any _ _)) | (go_at_call 43; exact Calls.quiet_of_same (l1SameFloat_any _ _ (by assumption) (by assumption) _)))
      go_wp2
      go_ret
      exact ⟨rfl, by repeat (first | exact Ext.refl _ | apply Ext.drewN | apply Ext.drew | apply Ext.alloc)⟩

set_option maxHeartbeats 1000000 in
theorem sValid_f64 (i : Int) (f g : Nat) (hf : B64 f) (hg : B64 g) (w : World) :
    Calls Try.prog 25 #[.int .i64 8, .agg #[.int .i64 i, .float .f64 f, .float .f64 g]] w fun e w' => e = .returned (.bool (i == 0 && pzB g)) ∧ Ext w w' := by
  have hd : isDtB 8 = true := by decide
  have hk : skindL 8 = 2 := by decide
  have hb0 := B64_0
  have sg := same_zero g hg
  have sf := same_self f
  cases h0 : (i == 0) <;> cases h2 : pzB g <;> rw [h2] at sg
  all_goals
    go_enter Try.func25, Try.ntmps25
    go_wp2_with (first | (go_at_call 24; refine (l1IsDType_any _ _).mono ?_; rintro e w' ⟨rfl, rfl⟩) | (go_at_call 40; refine (l1Kind_any _ _).mono ?_; rintro e w' ⟨rfl, rfl⟩))
    go_quiet (first | (go_at_call 44; exact Calls.quiet_of_same (l1RoundN _ (by decide) _ _)) | (go_at_call 43; exact Calls.quiet_of_same (l1SameFloat_any _ _ (by assumption) (by assumption) _)))
    go_wp2
    go_ret
    exact ⟨rfl, by repeat (first | exact Ext.refl _ | apply Ext.drewN | apply Ext.drew | apply Ext.alloc)⟩

set_option maxHeartbeats 1000000 in
theorem sValid_f32 (i : Int) (f g : Nat) (hf : B64 f) (hg : B64 g) (w : World) :
    Calls Try.prog 25 #[.int .i64 7, .agg #[.int .i64 i, .float .f64 f, .float .f64 g]] w fun e w' => e = .returned (.bool (i == 0 && pzB g && sngB f)) ∧ Ext w w' := by
  have hd : isDtB 7 = true := by decide
  have hk : skindL 7 = 2 := by decide
  have hb0 := B64_0
  have sg := same_zero g hg
  cases h0 : (i == 0) <;> cases h2 : pzB g <;> rw [h2] at sg
  case true.true =>
    go_enter Try.func25, Try.ntmps25
    go_wp2_with (first | (go_at_call 24; refine (l1IsDType_any _ _).mono ?_; rintro e w' ⟨rfl, rfl⟩) | (go_at_call 40; refine (l1Kind_any _ _).mono ?_; rintro e w' ⟨rfl, rfl⟩))
    go_region_with (first | (go_at_call 44; refine (l1Round7 _ ?_ _).mono ?_; assumption; rintro e w' ⟨r, n, rfl, hr, rfl⟩; have hrb := B64_single hr; have sr := same_single _ _ hf hr) | (go_at_call 43; refine (l1SameFloat_any _ _ ?_ ?_ _).mono ?_; assumption; assumption; rintro e w' ⟨rfl, rfl⟩))
    all_goals go_wp2
    all_goals go_ret
    all_goals go_light
    all_goals exact ⟨ret_bool (by simp_all), by repeat (first | exact Ext.refl _ | apply Ext.drewN | apply Ext.drew | apply Ext.alloc)⟩
  all_goals
    go_enter Try.func25, Try.ntmps25
    go_wp2_with (first | (go_at_call 24; refine (l1IsDType_any _ _).mono ?_; rintro e w' ⟨rfl, rfl⟩) | (go_at_call 40; refine (l1Kind_any _ _).mono ?_; rintro e w' ⟨rfl, rfl⟩))
    go_quiet (first | (go_at_call 43; exact Calls.quiet_of_same (l1SameFloat_any _ _ (by assumption) (by assumption) _)))
    go_wp2
    go_ret
    exact ⟨rfl, by repeat (first | exact Ext.refl _ | apply Ext.drewN | apply Ext.drew | apply Ext.alloc)⟩

set_option maxHeartbeats 1000000 in
theorem sValid_c128 (i : Int) (f g : Nat) (w : World) :
    Calls Try.prog 25 #[.int .i64 9, .agg #[.int .i64 i, .float .f64 f, .float .f64 g]] w fun e w' => e = .returned (.bool (i == 0)) ∧ Ext w w' := by
  have hd : isDtB 9 = true := by decide
  have hk : skindL 9 = 3 := by decide
  go_enter Try.func25, Try.ntmps25
  go_wp2_with (first | (go_at_call 24; refine (l1IsDType_any _ _).mono ?_; rintro e w' ⟨rfl, rfl⟩) | (go_at_call 40; refine (l1Kind_any _ _).mono ?_; rintro e w' ⟨rfl, rfl⟩))
  go_ret
  exact ⟨rfl, by repeat (first | exact Ext.refl _ | apply Ext.drewN | apply Ext.drew | apply Ext.alloc)⟩

theorem sValid_no (dt i : Int) (f g : Nat) (h : ¬ (1 ≤ dt ∧ dt ≤ 9)) (w : World) :
    Calls Try.prog 25 #[.int .i64 dt, .agg #[.int .i64 i, .float .f64 f, .float .f64 g]] w fun e w' => e = .returned (.bool false) ∧ Ext w w' := by
  have hd : isDtB dt = false := by unfold isDtB; simpa using h
  clear h
  go_enter Try.func25, Try.ntmps25
  go_wp2_with (first | (go_at_call 24; refine (l1IsDType_any _ _).mono ?_; rintro e w' ⟨rfl, rfl⟩) | (go_at_call 40; refine (l1Kind_any _ _).mono ?_; rintro e w' ⟨rfl, rfl⟩))
  go_ret
  exact ⟨rfl, by repeat (first | exact Ext.refl _ | apply Ext.drewN | apply Ext.drew | apply Ext.alloc)⟩

theorem sValid_any (dt i : Int) (f g : Nat) (hf : B64 f) (hg : B64 g) (w : World) :
    Calls Try.prog 25 #[.int .i64 dt, .agg #[.int .i64 i, .float .f64 f, .float .f64 g]] w fun e w' => e = .returned (.bool (validB dt i f g)) ∧ Ext w w' := by
  by_cases h2 : 1 ≤ dt ∧ dt ≤ 6
  · have e : validB dt i f g = (rngB dt i && pzB f && pzB g) := by unfold validB; rw [if_pos (by omega)]
    rw [e]; exact sValid_int dt i f g h2 hf hg w
  by_cases h7 : dt = 7
  · subst h7; exact sValid_f32 i f g hf hg w
  by_cases h8 : dt = 8
  · subst h8; exact sValid_f64 i f g hf hg w
  by_cases h9 : dt = 9
  · subst h9; exact sValid_c128 i f g w
  have e : validB dt i f g = false := by unfold validB; rw [if_neg (by omega), if_neg h7, if_neg h8, if_neg h9]
  rw [e]; exact sValid_no dt i f g (by omega) w
end Go.Proofs.Ytbkdfhlbjaiahaa
namespace Go.Proofs.Ytbkdfhlbjaiahaa
open Go.ChangeShapes Go.RowKit FL
set_option linter.unusedSimpArgs false
set_option linter.unusedVariables false
def cellB (dt : Int) (c : C3) : Bool := validB dt c.1 c.2.1 c.2.2
theorem vStore_eq (dt : Int) (cs : List C3) : vStore (dt, cs) = (isDtB dt && decide (cs.length ≤ 4096) && cs.all (cellB dt)) := rfl

set_option maxRecDepth 100000 in
set_option maxHeartbeats 1000000 in
theorem validStore_any {w : World} {v : Value} {cs : List C3} (dt : Int) (h : CV w v cs) (hg : CG cs) (hl : cs.length ≤ 1048576) :
    Calls Try.prog 27 #[.agg #[.int .i64 dt, v]] w fun e w' => e = .returned (.bool (vStore (dt, cs))) ∧ Ext w w' := by
  rw [vStore_eq]
  obtain ⟨sa, cap, rfl, hx⟩ := h
  have x0 : Hid (Ext w (w.alloc (.cells #[.int .i64 dt, .slice sa cs.length cap] 54))) := (Ext.refl w).alloc _ _
  have HX := hide hx
  clear hx
  cases hd : isDtB dt with
  | false =>
    have Hd := hide hd
    clear hd
    go_enter Try.func27, Try.ntmps27
    go_wp2_with (go_at_call 46; refine (isDType_any _ _).mono ?_; rintro e w' ⟨rfl, rfl⟩; rw [Hd.out])
    go_ret
    exact ⟨rfl, x0.out⟩
  | true =>
    have Hd := hide hd
    clear hd
    by_cases h4 : cs.length ≤ 4096
    · have h4' : ¬ (4096 : Int) < (cs.length : Int) := by omega
      have hd4 : Hid ((true && decide (cs.length ≤ 4096) && cs.all (cellB dt)) = cs.all (cellB dt)) := by show (_ : Bool) = _; simp [h4]
      rw [hd4.out]
      go_enter Try.func27, Try.ntmps27
      go_wp2_with (go_at_call 46; refine (isDType_any _ _).mono ?_; rintro e w' ⟨rfl, rfl⟩; rw [Hd.out])
      generalize hW1 : w.alloc (.cells #[.int .i64 dt, .slice sa cs.length cap] 54) = W1 at x0 ⊢
      have D0 : Hid (W1.cell? ⟨w.heap.size, 0, none⟩ = some (.int .i64 dt)) := by show W1.cell? _ = _; rw [← hW1]; exact new_cell w _ 54 _ rfl 0
      clear hW1
      go_loopw [18] (fun i wr => ∃ k : Nat, i = .int .i64 k ∧ k ≤ cs.length ∧ Hid (∀ j, j < k → cellB dt (cs.getD j k0) = true) ∧ Ext W1 wr) (fun i _ => cs.length - (intOf i).toNat)
      case atStart => exact ⟨0, rfl, by omega, fun j hj => absurd hj (Nat.not_lt_zero _), Ext.refl W1⟩
      case round =>
        obtain ⟨k, rfl, hk, hv, hw⟩ := hrel
        have HW := hide hw
        clear hw
        by_cases hlt : k < cs.length
        · rcases HX.out with h0 | ⟨b, off, rfl, hrow⟩
          · rw [h0] at hlt; simp at hlt
          have xx := x0.out.trans HW.out
          have q0 := xx.box (hrow k hlt).1
          have q1 := xx.box (hrow k hlt).2.1
          have q2 := xx.box (hrow k hlt).2.2
          have dd := HW.out.box D0.out
          have hgk := hg.at k hlt
          have hk0 : (0 : Int) ≤ (k : Int) := Int.natCast_nonneg _
          have hk1 : (k : Int) < (cs.length : Int) := by omega
          have hcb : Hid (cellB dt (cs.getD k k0) = validB dt (cs.getD k k0).1 (cs.getD k k0).2.1 (cs.getD k k0).2.2) := rfl
          generalize hA : (cs.getD k k0).1 = A at q0 hgk hcb
          generalize hB : (cs.getD k k0).2.1 = B at q1 hgk hcb
          generalize hC : (cs.getD k k0).2.2 = C at q2 hgk hcb
          have HG := hide hgk
          clear hrow hgk hA hB hC xx
          have dd' := ((Ext.refl wr).alloc #[.int .i64 A, .float .f64 B, .float .f64 C] 59).box dd
          have hva := hide (iValid_any dt A B C HG.out.1 HG.out.2.1 HG.out.2.2 (wr.alloc (.cells #[.int .i64 A, .float .f64 B, .float .f64 C] 59)))
          cases hvb : validB dt A B C with
          | true =>
            rw [hvb] at hva hcb
            go_wp2_with (go_at_call 47; refine hva.out.mono ?_; rintro e w2 ⟨rfl, x2⟩; have HW2 := hide ((HW.out.alloc #[.int .i64 A, .float .f64 B, .float .f64 C] 59).trans x2); clear x2)
            go_roundw
            · refine ⟨k + 1, by go_num, by omega, fun j hj => ?_, HW2.out⟩
              by_cases e : j = k
              · rw [e]; exact hcb.out
              · exact hv.out j (by omega)
            · simp [intOf]; omega
          | false =>
            rw [hvb] at hva hcb
            go_wp2_with (go_at_call 47; refine hva.out.mono ?_; rintro e w2 ⟨rfl, x2⟩; have HW2 := hide ((HW.out.alloc #[.int .i64 A, .float .f64 B, .float .f64 C] 59).trans x2); clear x2)
            go_ret
            rw [all_no k0 hlt hcb.out]
            exact ⟨rfl, x0.out.trans HW2.out⟩
        · have hkk : k = cs.length := by omega
          subst hkk
          go_wp2
          go_ret
          rw [all_yes k0 hv.out]
          exact ⟨rfl, x0.out.trans HW.out⟩
    · have h4' : (4096 : Int) < (cs.length : Int) := by omega
      have hd4 : Hid ((true && decide (cs.length ≤ 4096) && cs.all (cellB dt)) = false) := by show (_ : Bool) = _; simp [h4]
      rw [hd4.out]
      go_enter Try.func27, Try.ntmps27
      go_wp2_with (go_at_call 46; refine (isDType_any _ _).mono ?_; rintro e w' ⟨rfl, rfl⟩; rw [Hd.out])
      go_ret
      exact ⟨rfl, x0.out⟩

set_option maxRecDepth 100000 in
set_option maxHeartbeats 1000000 in
theorem iVH_any {w : World} {v : Value} {ss : List St} (h : SV w v ss) (hg : SG ss) (hl : SL ss 1048576) :
    Calls Try.prog 9 #[.agg #[v]] w fun e w' => e = .returned (.bool (vHeap ss)) ∧ Ext w w' := by
  unfold vHeap
  obtain ⟨sa, cap, rfl, hx⟩ := h
  have x0 : Hid (Ext w (w.alloc (.cells #[.slice sa ss.length cap] 29))) := (Ext.refl w).alloc _ _
  have HX := hide hx
  have hl1 := hl.1
  clear hx
  by_cases h4 : ss.length ≤ 64
  · have h4' : ¬ (64 : Int) < (ss.length : Int) := by omega
    have hd4 : Hid ((decide (ss.length ≤ 64) && ss.all vStore) = ss.all vStore) := by show (_ : Bool) = _; simp [h4]
    rw [hd4.out]
    go_enter Try.func9, Try.ntmps9
    go_wp2_with fail
    generalize hW1 : w.alloc (.cells #[.slice sa ss.length cap] 29) = W1 at x0 ⊢
    clear hW1
    go_loopw [12] (fun i wr => ∃ k : Nat, i = .int .i64 k ∧ k ≤ ss.length ∧ Hid (∀ j, j < k → vStore (ss.getD j s0) = true) ∧ Ext w wr) (fun i _ => ss.length - (intOf i).toNat)
    case atStart => exact ⟨0, rfl, by omega, fun j hj => absurd hj (Nat.not_lt_zero _), x0.out⟩
    case round =>
      obtain ⟨k, rfl, hk, hv, hw⟩ := hrel
      have HW := hide hw
      clear hw
      by_cases hlt : k < ss.length
      · rcases HX.out with h0 | ⟨b, off, rfl, hrow⟩
        · rw [h0] at hlt; simp at hlt
        obtain ⟨q0, u, q1, c1⟩ := (hrow.keep HW.out.bl) k hlt
        have hgk := hg.at k hlt
        have hlk := hl.at k hlt
        have hk0 : (0 : Int) ≤ (k : Int) := Int.natCast_nonneg _
        have hk1 : (k : Int) < (ss.length : Int) := by omega
        have C1 := hide c1
        have hcb : Hid (vStore (ss.getD k s0) = vStore ((ss.getD k s0).1, (ss.getD k s0).2)) := rfl
        generalize (ss.getD k s0).1 = A at q0 hcb
        generalize (ss.getD k s0).2 = cs at C1 hgk hlk hcb
        clear hrow c1
        obtain ⟨s1, d1, rfl, _⟩ := C1.out
        have xa : Ext wr (wr.alloc (.cells #[.int .i64 A, .slice s1 cs.length d1] 54)) := (Ext.refl wr).alloc _ _
        have hva := hide (validStore_any A (C1.out.keep xa.bl) hgk hlk)
        have HWa := hide (HW.out.trans xa)
        clear xa
        cases hvb : vStore (A, cs) with
        | true =>
          rw [hvb] at hva hcb
          go_wp2_with (go_at_call 27; refine hva.out.mono ?_; rintro e w2 ⟨rfl, x2⟩; have HW2 := hide (HWa.out.trans x2); clear x2)
          go_roundw
          · refine ⟨k + 1, by go_num, by omega, fun j hj => ?_, HW2.out⟩
            by_cases e : j = k
            · rw [e]; exact hcb.out
            · exact hv.out j (by omega)
          · simp [intOf]; omega
        | false =>
          rw [hvb] at hva hcb
          go_wp2_with (go_at_call 27; refine hva.out.mono ?_; rintro e w2 ⟨rfl, x2⟩; have HW2 := hide (HWa.out.trans x2); clear x2)
          go_ret
          rw [all_no s0 hlt hcb.out]
          exact ⟨rfl, HW2.out⟩
      · have hkk : k = ss.length := by omega
        subst hkk
        go_wp2
        go_ret
        rw [all_yes s0 hv.out]
        exact ⟨rfl, HW.out⟩
  · have h4' : (64 : Int) < (ss.length : Int) := by omega
    have hd4 : Hid ((decide (ss.length ≤ 64) && ss.all vStore) = false) := by show (_ : Bool) = _; simp [h4]
    rw [hd4.out]
    go_enter Try.func9, Try.ntmps9
    go_wp2
    go_ret
    exact ⟨rfl, x0.out⟩

set_option maxRecDepth 100000 in
set_option maxHeartbeats 1000000 in
theorem sVH_any {w : World} {v : Value} {ss : List St} (h : SV w v ss) (hg : SG ss) (hl : SL ss 1048576) :
    Calls Try.prog 7 #[.agg #[v]] w fun e w' => e = .returned (.bool (vHeap ss)) ∧ Ext w w' := by
  unfold vHeap
  obtain ⟨sa, cap, rfl, hx⟩ := h
  have x0 : Hid (Ext w (w.alloc (.cells #[.slice sa ss.length cap] 29))) := (Ext.refl w).alloc _ _
  have HX := hide hx
  have hl1 := hl.1
  clear hx
  by_cases h4 : ss.length ≤ 64
  · have h4' : ¬ (64 : Int) < (ss.length : Int) := by omega
    have hd4 : Hid ((decide (ss.length ≤ 64) && ss.all vStore) = ss.all vStore) := by show (_ : Bool) = _; simp [h4]
    rw [hd4.out]
    go_enter Try.func7, Try.ntmps7
    go_wp2_with fail
    generalize hW1 : w.alloc (.cells #[.slice sa ss.length cap] 29) = W1 at x0 ⊢
    have D0 : Hid (W1.cell? ⟨w.heap.size, 0, none⟩ = some (.slice sa ss.length cap)) := by show W1.cell? _ = _; rw [← hW1]; exact new_cell w _ 29 _ rfl 0
    clear hW1
    go_loopw [3] (fun i wr => ∃ k : Nat, i = .int .i64 k ∧ k ≤ ss.length ∧ Hid (∀ j, j < k → vStore (ss.getD j s0) = true) ∧ Ext W1 wr) (fun i _ => ss.length - (intOf i).toNat)
    case atStart => exact ⟨0, rfl, by omega, fun j hj => absurd hj (Nat.not_lt_zero _), Ext.refl W1⟩
    case round =>
      obtain ⟨k, rfl, hk, hv, hw⟩ := hrel
      have HW := hide hw
      clear hw
      have dd := HW.out.box D0.out
      by_cases hlt : k < ss.length
      · rcases HX.out with h0 | ⟨b, off, rfl, hrow⟩
        · rw [h0] at hlt; simp at hlt
        obtain ⟨q0, u, q1, c1⟩ := (hrow.keep (x0.out.trans HW.out).bl) k hlt
        have hgk := hg.at k hlt
        have hlk := hl.at k hlt
        have hk0 : (0 : Int) ≤ (k : Int) := Int.natCast_nonneg _
        have hk1 : (k : Int) < (ss.length : Int) := by omega
        have C1 := hide c1
        have hcb : Hid (vStore (ss.getD k s0) = vStore ((ss.getD k s0).1, (ss.getD k s0).2)) := rfl
        generalize (ss.getD k s0).1 = A at q0 hcb
        generalize (ss.getD k s0).2 = cs at C1 hgk hlk hcb
        clear hrow c1
        obtain ⟨s1, d1, rfl, hcr⟩ := C1.out
        have HCR := hide hcr
        clear hcr
        have xa : Ext wr (wr.alloc (.cells #[.int .i64 A, .slice s1 cs.length d1] 54)) := (Ext.refl wr).alloc _ _
        have n0 := fun j => new_cell wr #[.int .i64 A, .slice s1 cs.length d1] 54 wr.heap.size rfl j
        have HN0 := hide (n0 0)
        have HN1 := hide (n0 1)
        have HWa := hide (HW.out.trans xa)
        have HXa := hide xa
        clear xa n0
        have hcb2 : Hid (vStore (ss.getD k s0) = (isDtB A && decide (cs.length ≤ 4096) && cs.all (cellB A))) := hcb.out.trans (vStore_eq A cs)
        clear hcb
        cases hd : isDtB A with
        | false =>
          have Hd := hide hd
          have hno : Hid (vStore (ss.getD k s0) = false) := by show vStore _ = false; rw [hcb2.out, hd]; rfl
          clear hd
          go_wp2_with (go_at_call 24; refine (l1IsDType_any _ _).mono ?_; rintro e w' ⟨rfl, rfl⟩; rw [Hd.out])
          go_ret
          rw [all_no s0 hlt hno.out]
          exact ⟨rfl, x0.out.trans HWa.out⟩
        | true =>
          have Hd := hide hd
          rw [hd] at hcb2
          clear hd
          by_cases h5 : cs.length ≤ 4096
          · have h5' : ¬ (4096 : Int) < (cs.length : Int) := by omega
            have hc3 : Hid (vStore (ss.getD k s0) = cs.all (cellB A)) := by show vStore _ = _; rw [hcb2.out]; simp [h5]
            clear hcb2
            go_wp2_with (go_at_call 24; refine (l1IsDType_any _ _).mono ?_; rintro e w' ⟨rfl, rfl⟩; rw [Hd.out])
            generalize hWa : wr.alloc (.cells #[.int .i64 A, .slice s1 cs.length d1] 54) = Wa at HN0 HN1 HWa HXa ⊢
            generalize wr.heap.size = B0 at HN0 HN1 ⊢
            clear hWa
            go_loopw [5] (fun i wr2 => ∃ m : Nat, i = .int .i64 m ∧ m ≤ cs.length ∧ Hid (∀ j, j < m → cellB A (cs.getD j k0) = true) ∧ Ext Wa wr2) (fun i _ => cs.length - (intOf i).toNat)
            case atStart => exact ⟨0, rfl, by omega, fun j hj => absurd hj (Nat.not_lt_zero _), Ext.refl Wa⟩
            case round =>
              obtain ⟨m, rfl, hm, hv2, hw2⟩ := hrel
              have HW2 := hide hw2
              clear hw2
              have e0 := HW2.out.box HN0.out
              have e1 := HW2.out.box HN1.out
              by_cases hml : m < cs.length
              · rcases HCR.out with h0 | ⟨bc, oc, rfl, hrow⟩
                · rw [h0] at hml; simp at hml
                have xx := HXa.out.trans HW2.out
                have q0 := xx.box (hrow m hml).1
                have q1 := xx.box (hrow m hml).2.1
                have q2 := xx.box (hrow m hml).2.2
                have hgm := hgk.at m hml
                have hm0 : (0 : Int) ≤ (m : Int) := Int.natCast_nonneg _
                have hm1 : (m : Int) < (cs.length : Int) := by omega
                have hcb : Hid (cellB A (cs.getD m k0) = validB A (cs.getD m k0).1 (cs.getD m k0).2.1 (cs.getD m k0).2.2) := rfl
                generalize (cs.getD m k0).1 = X at q0 hgm hcb
                generalize (cs.getD m k0).2.1 = Y at q1 hgm hcb
                generalize (cs.getD m k0).2.2 = Z at q2 hgm hcb
                have HG := hide hgm
                clear hrow hgm xx
                have hva := hide (fun W => sValid_any A X Y Z HG.out.2.1 HG.out.2.2 W)
                cases hvb : validB A X Y Z with
                | true =>
                  rw [hvb] at hva hcb
                  have SA : Hid ((fun w' => w'.cell? ⟨B0, 0, none⟩ = some (.int .i64 A) ∧ w'.cell? ⟨B0, 1, none⟩ = some (.slice (some ⟨bc, oc, none⟩) cs.length d1) ∧ w'.cell? ⟨bc, oc + m * 3, none⟩ = some (.int .i64 X) ∧ w'.cell? ⟨bc, oc + m * 3 + 1, none⟩ = some (.float .f64 Y) ∧ w'.cell? ⟨bc, oc + m * 3 + 2, none⟩ = some (.float .f64 Z)) wr.drew) := ⟨e0, e1, q0, q1, q2⟩
                  go_wp2_with fail
                  go_region_held3 (fun w' => w'.cell? ⟨B0, 0, none⟩ = some (.int .i64 A) ∧ w'.cell? ⟨B0, 1, none⟩ = some (.slice (some ⟨bc, oc, none⟩) cs.length d1) ∧ w'.cell? ⟨bc, oc + m * 3, none⟩ = some (.int .i64 X) ∧ w'.cell? ⟨bc, oc + m * 3 + 1, none⟩ = some (.float .f64 Y) ∧ w'.cell? ⟨bc, oc + m * 3 + 2, none⟩ = some (.float .f64 Z)) (first | with_reducible exact SA.out | with_reducible exact SB'.out | exact SA.out | exact SB'.out | fail) (first | (go_at_call 25; refine (hva.out _).mono ?_; rintro e w3 ⟨rfl, x3⟩; have HW3 := hide (HW2.out.drew.trans x3); have SB' : Hid ((fun w' => w'.cell? ⟨B0, 0, none⟩ = some (.int .i64 A) ∧ w'.cell? ⟨B0, 1, none⟩ = some (.slice (some ⟨bc, oc, none⟩) cs.length d1) ∧ w'.cell? ⟨bc, oc + m * 3, none⟩ = some (.int .i64 X) ∧ w'.cell? ⟨bc, oc + m * 3 + 1, none⟩ = some (.float .f64 Y) ∧ w'.cell? ⟨bc, oc + m * 3 + 2, none⟩ = some (.float .f64 Z)) w3) := ⟨x3.box e0, x3.box e1, x3.box q0, x3.box q1, x3.box q2⟩; clear x3) | fail)
                  go_wp2
                  go_roundw
                  · refine ⟨m + 1, by go_num, by omega, fun j hj => ?_, HW3.out⟩
                    by_cases e : j = m
                    · rw [e]; exact hcb.out
                    · exact hv2.out j (by omega)
                  · simp [intOf]; omega
                | false =>
                  rw [hvb] at hva hcb
                  have hno : Hid (vStore (ss.getD k s0) = false) := by show vStore _ = _; rw [hc3.out]; exact all_no k0 hml hcb.out
                  have SA : Hid ((fun w' => w'.cell? ⟨B0, 0, none⟩ = some (.int .i64 A) ∧ w'.cell? ⟨B0, 1, none⟩ = some (.slice (some ⟨bc, oc, none⟩) cs.length d1) ∧ w'.cell? ⟨bc, oc + m * 3, none⟩ = some (.int .i64 X) ∧ w'.cell? ⟨bc, oc + m * 3 + 1, none⟩ = some (.float .f64 Y) ∧ w'.cell? ⟨bc, oc + m * 3 + 2, none⟩ = some (.float .f64 Z)) wr.drew) := ⟨e0, e1, q0, q1, q2⟩
                  go_wp2_with fail
                  go_region_held3 (fun w' => w'.cell? ⟨B0, 0, none⟩ = some (.int .i64 A) ∧ w'.cell? ⟨B0, 1, none⟩ = some (.slice (some ⟨bc, oc, none⟩) cs.length d1) ∧ w'.cell? ⟨bc, oc + m * 3, none⟩ = some (.int .i64 X) ∧ w'.cell? ⟨bc, oc + m * 3 + 1, none⟩ = some (.float .f64 Y) ∧ w'.cell? ⟨bc, oc + m * 3 + 2, none⟩ = some (.float .f64 Z)) (first | with_reducible exact SA.out | with_reducible exact SB'.out | exact SA.out | exact SB'.out | fail) (first | (go_at_call 25; refine (hva.out _).mono ?_; rintro e w3 ⟨rfl, x3⟩; have HW3 := hide (HW2.out.drew.trans x3); have SB' : Hid ((fun w' => w'.cell? ⟨B0, 0, none⟩ = some (.int .i64 A) ∧ w'.cell? ⟨B0, 1, none⟩ = some (.slice (some ⟨bc, oc, none⟩) cs.length d1) ∧ w'.cell? ⟨bc, oc + m * 3, none⟩ = some (.int .i64 X) ∧ w'.cell? ⟨bc, oc + m * 3 + 1, none⟩ = some (.float .f64 Y) ∧ w'.cell? ⟨bc, oc + m * 3 + 2, none⟩ = some (.float .f64 Z)) w3) := ⟨x3.box e0, x3.box e1, x3.box q0, x3.box q1, x3.box q2⟩; clear x3) | fail)
                  go_wp2
                  go_ret
                  rw [all_no s0 hlt hno.out]
                  exact ⟨rfl, (x0.out.trans HWa.out).trans HW3.out⟩
              · have hmm : m = cs.length := by omega
                subst hmm
                have hyes : Hid (vStore (ss.getD k s0) = true) := by show vStore _ = _; rw [hc3.out]; exact all_yes k0 hv2.out
                go_wp2
                go_roundw
                · refine ⟨k + 1, by go_num, by omega, fun j hj => ?_, HWa.out.trans HW2.out⟩
                  by_cases e : j = k
                  · rw [e]; exact hyes.out
                  · exact hv.out j (by omega)
                · simp [intOf]; omega
          · have h5' : (4096 : Int) < (cs.length : Int) := by omega
            have hno : Hid (vStore (ss.getD k s0) = false) := by show vStore _ = _; rw [hcb2.out]; simp [h5]
            clear hcb2
            go_wp2_with (go_at_call 24; refine (l1IsDType_any _ _).mono ?_; rintro e w' ⟨rfl, rfl⟩; rw [Hd.out])
            go_ret
            rw [all_no s0 hlt hno.out]
            exact ⟨rfl, x0.out.trans HWa.out⟩
      · have hkk : k = ss.length := by omega
        subst hkk
        go_wp2
        go_ret
        rw [all_yes s0 hv.out]
        exact ⟨rfl, x0.out.trans HW.out⟩
  · have h4' : (64 : Int) < (ss.length : Int) := by omega
    have hd4 : Hid ((decide (ss.length ≤ 64) && ss.all vStore) = false) := by show (_ : Bool) = _; simp [h4]
    rw [hd4.out]
    go_enter Try.func7, Try.ntmps7
    go_wp2
    go_ret
    exact ⟨rfl, x0.out⟩
end Go.Proofs.Ytbkdfhlbjaiahaa
namespace Go.Proofs.Ytbkdfhlbjaiahaa
open Go.ChangeShapes Go.RowKit FL
set_option linter.unusedSimpArgs false
set_option linter.unusedVariables false
/-- An array that is good in a heap. -/
abbrev GoodA (ss : List St) (st : Int) (xs sv : List Int) (off : Int) : Prop := (0 ≤ st ∧ st < ss.length) ∧ ValidV xs sv off ∧ ∀ p ∈ offsL xs sv off, p < ((ss.getD st.toNat s0).2.length : Int)
def dcGoodA (ss : List St) (st : Int) (xs sv : List Int) (off : Int) : Bool := decide (GoodA ss st xs sv off)
theorem dcGoodA_t {ss : List St} {st : Int} {xs sv : List Int} {off : Int} (h : GoodA ss st xs sv off) : dcGoodA ss st xs sv off = true := decide_eq_true h
theorem dcGoodA_f {ss : List St} {st : Int} {xs sv : List Int} {off : Int} (h : ¬ GoodA ss st xs sv off) : dcGoodA ss st xs sv off = false := decide_eq_false h
theorem offs_len {xs sv : List Int} {off : Int} (hv : ValidV xs sv off) : (offsL xs sv off).length ≤ 4096 := by
  unfold offsL
  split
  · simp
  · rw [places_len xs sv off hv.2.1.symm]
    have h1 := prod_plen (fun m hm => (good_nonneg hv.1 m hm).1)
    have h2 := hv.1.2.2
    omega

set_option maxRecDepth 100000 in
set_option maxHeartbeats 2000000 in
theorem l4Good_any {w : World} {v vS vT : Value} {ss : List St} {xs sv : List Int} (h : SV w v ss) (hl : SL ss 1048576) (st : Int) (hS : Ints w vS xs) (hT : Ints w vT sv) (off : Int) (lx : xs.length ≤ 1048576) (ls : sv.length ≤ 1048576) :
    Calls Try.prog 30 #[.agg #[v], .agg #[.int .i64 st, vS, vT, .int .i64 off]] w fun e w' => e = .returned (.bool (dcGoodA ss st xs sv off)) ∧ Bel w w' := by
  obtain ⟨sa, cap, rfl, hx⟩ := h
  have h : SV w (.slice sa ss.length cap) ss := ⟨sa, cap, rfl, hx⟩
  have x0 : Ext w ((w.alloc (.cells #[.slice sa ss.length cap] 29)).alloc (.cells #[.int .i64 st, vS, vT, .int .i64 off] 42)) := ((Ext.refl w).alloc _ _).alloc _ _
  have y0 : Ext (w.alloc (.cells #[.slice sa ss.length cap] 29)) ((w.alloc (.cells #[.slice sa ss.length cap] 29)).alloc (.cells #[.int .i64 st, vS, vT, .int .i64 off] 42)) := (Ext.refl _).alloc _ _
  have n1 := fun j => new_cell w #[.slice sa ss.length cap] 29 w.heap.size rfl j
  have n2 := fun j => new_cell (w.alloc (.cells #[.slice sa ss.length cap] 29)) #[.int .i64 st, vS, vT, .int .i64 off] 42 (w.heap.size + 1) (by simp) j
  have C0 : Hid (((w.alloc (.cells #[.slice sa ss.length cap] 29)).alloc (.cells #[.int .i64 st, vS, vT, .int .i64 off] 42)).cell? ⟨w.heap.size, 0, none⟩ = some (.slice sa ss.length cap)) := y0.box (n1 0)
  have A0 : Hid (((w.alloc (.cells #[.slice sa ss.length cap] 29)).alloc (.cells #[.int .i64 st, vS, vT, .int .i64 off] 42)).cell? ⟨w.heap.size + 1, 0, none⟩ = some (.int .i64 st)) := n2 0
  have A1 : Hid (((w.alloc (.cells #[.slice sa ss.length cap] 29)).alloc (.cells #[.int .i64 st, vS, vT, .int .i64 off] 42)).cell? ⟨w.heap.size + 1, 1, none⟩ = some vS) := n2 1
  have A2 : Hid (((w.alloc (.cells #[.slice sa ss.length cap] 29)).alloc (.cells #[.int .i64 st, vS, vT, .int .i64 off] 42)).cell? ⟨w.heap.size + 1, 2, none⟩ = some vT) := n2 2
  have A3 : Hid (((w.alloc (.cells #[.slice sa ss.length cap] 29)).alloc (.cells #[.int .i64 st, vS, vT, .int .i64 off] 42)).cell? ⟨w.heap.size + 1, 3, none⟩ = some (.int .i64 off)) := n2 3
  have X0 := hide x0.bl
  have HH := hide (h.keep x0.bl)
  have HS := hide (hS.ext x0)
  have HT := hide (hT.ext x0)
  have hl1 := hl.1
  clear hx h x0 y0 n1 n2
  obtain ⟨s1, d1, rfl, _⟩ := hS
  obtain ⟨s2, d2, rfl, _⟩ := hT
  by_cases h1 : st < 0
  · have hno : Hid ((dcGoodA ss st xs sv off) = false) := decide_eq_false (fun q => by have := q.1.1; omega)
    have hd : decide (st < 0) = true := decide_eq_true h1
    go_enter Try.func30, Try.ntmps30
    go_wp2
    go_ret
    exact ⟨ret_bool hno.out.symm, X0.out⟩
  have hd1 : decide (st < 0) = false := decide_eq_false h1
  by_cases h2 : (ss.length : Int) ≤ st
  · have hno : Hid ((dcGoodA ss st xs sv off) = false) := decide_eq_false (fun q => by have := q.1.2; omega)
    have hd : decide ((ss.length : Int) ≤ st) = true := decide_eq_true h2
    go_enter Try.func30, Try.ntmps30
    go_wp2
    go_ret
    exact ⟨ret_bool hno.out.symm, X0.out⟩
  have hd2 : decide ((ss.length : Int) ≤ st) = false := decide_eq_false h2
  obtain ⟨k, rfl⟩ : ∃ k : Nat, st = (k : Int) := ⟨st.toNat, by omega⟩
  have hk : k < ss.length := by omega
  have hgv : Hid (GoodA ss k xs sv off ↔ ValidV xs sv off ∧ ∀ p ∈ offsL xs sv off, p < ((ss.getD k s0).2.length : Int)) := by
    show GoodA ss k xs sv off ↔ _
    unfold GoodA
    rw [Int.toNat_natCast]
    exact ⟨fun q => q.2, fun q => ⟨⟨by omega, by omega⟩, q⟩⟩
  have hvv := hide (sVV_any HS.out HT.out off lx ls)
  generalize hW0 : (w.alloc (.cells #[.slice sa ss.length cap] 29)).alloc (.cells #[.int .i64 (k : Int), .slice s1 xs.length d1, .slice s2 sv.length d2, .int .i64 off] 42) = W0 at C0 A0 A1 A2 A3 X0 HH HS HT hvv
  have HW0 := hide hW0
  clear hW0
  by_cases hv : ValidV xs sv off
  · have hdv : (dcValidV xs sv off) = true := dcValidV_t hv
    rw [hdv] at hvv
    have HV := hide hv
    clear hv
    go_enter Try.func30, Try.ntmps30
    go_wp2_with (go_at_call 50; rw [HW0.out]; refine hvv.out.mono ?_; rintro e w1 ⟨rfl, x1⟩; have c0' := x1.box C0.out; have a0' := x1.box A0.out; have a1' := x1.box A1.out; have a2' := x1.box A2.out; have a3' := x1.box A3.out)
    have hv := HV.out
    have HS1 := hide (HS.out.below x1)
    have HT1 := hide (HT.out.below x1)
    have HH1 := hide (HH.out.keep x1)
    have X1 := hide (Bel.tr X0.out x1)
    have hOl := offs_len hv
    refine (l2Offsets_any HS1.out HT1.out off hv).mono ?_
    rintro e w2 ⟨so, co, rfl, hO, x2⟩
    have c2' := Bel.box x2 c0'
    have a2'' := Bel.box x2 a0'
    have HH2 := hide (HH1.out.keep x2)
    have X2 := hide (Bel.tr X1.out x2)
    have HO := hide hO
    clear x1 x2 hO c0' a0' a1' a2' a3' HS1 HT1 HH1 X1 HS HT HH X0 C0 A0 A1 A2 A3 HW0 hvv
    have hgv2 : Hid (GoodA ss k xs sv off ↔ ∀ p ∈ offsL xs sv off, p < ((ss.getD k s0).2.length : Int)) := ⟨fun q => (hgv.out.1 q).2, fun q => hgv.out.2 ⟨hv, q⟩⟩
    clear hgv hdv hv HV
    obtain ⟨sb0, cb0, eb0, hrow0⟩ := HH2.out
    injection eb0 with eb1 _ eb2
    subst eb1 eb2
    rcases hrow0 with h0 | ⟨bs, os, rfl, hrow⟩
    · rw [h0] at hk; simp at hk
    obtain ⟨q0, u, q1, q2⟩ := hrow k hk
    obtain ⟨su, cu, rfl, _⟩ := q2
    have hcl := hl.at k hk
    generalize (ss.getD k s0).2.length = N at hgv2 hcl q1
    generalize (ss.getD k s0).1 = DT at q0
    generalize offsL xs sv off = L at HO hOl hgv2 ⊢
    clear hrow
    have hk0 : (0 : Int) ≤ (k : Int) := Int.natCast_nonneg _
    have hk1 : (k : Int) < (ss.length : Int) := by omega
    go_wp2_with fail
    go_loopw [6] (fun i wr => ∃ m : Nat, i = .int .i64 m ∧ m ≤ L.length ∧ Hid (∀ j, j < m → L.getD j 0 < (N : Int)) ∧ Ext w2 wr) (fun i _ => L.length - (intOf i).toNat)
    case atStart => exact ⟨0, rfl, by omega, fun j hj => absurd hj (Nat.not_lt_zero _), Ext.refl w2⟩
    case round =>
      obtain ⟨m, rfl, hm, hv2, hw2⟩ := hrel
      have HW2 := hide hw2
      clear hw2
      have b0' := HW2.out.box c2'
      have b1' := HW2.out.box a2''
      have b2' := HW2.out.box q1
      by_cases hml : m < L.length
      · rcases HO.out with h0 | ⟨g, rfl, hg1, hrowL, _⟩
        · rw [h0] at hml; simp at hml
        have l0 := HW2.out.box (hrowL m hml)
        rw [Nat.zero_add] at l0
        have hm0 : (0 : Int) ≤ (m : Int) := Int.natCast_nonneg _
        have hm1 : (m : Int) < (L.length : Int) := by omega
        have hmem : Hid (¬ L.getD m 0 < (N : Int) → ¬ GoodA ss k xs sv off) := fun q1 q2 => q1 (hgv2.out.1 q2 _ (by rw [List.getD_eq_getElem?_getD, List.getElem?_eq_getElem hml]; exact List.getElem_mem hml))
        have hstep : Hid (L.getD m 0 < (N : Int) → ∀ j, j < m + 1 → L.getD j 0 < (N : Int)) := fun q j hj => by
          by_cases e : j = m
          · rw [e]; exact q
          · exact hv2.out j (by omega)
        generalize L.getD m 0 = X at l0 hmem hstep
        clear hrowL
        by_cases hX : X < (N : Int)
        · have hX' : ¬ (N : Int) ≤ X := by omega
          have hXd : decide ((N : Int) ≤ X) = false := decide_eq_false hX'
          go_wp2_with fail
          go_quiet (fail)
          go_wp2
          go_roundw
          · exact ⟨m + 1, by go_num, by omega, hstep.out hX, HW2.out.drewN _⟩
          · simp [intOf]; omega
        · have hX' : (N : Int) ≤ X := by omega
          have hXd : decide ((N : Int) ≤ X) = true := decide_eq_true hX'
          have hno : Hid ((dcGoodA ss k xs sv off) = false) := decide_eq_false (hmem.out hX)
          go_wp2_with fail
          go_quiet (fail)
          go_wp2
          go_ret
          exact ⟨ret_bool hno.out.symm, Bel.tr X2.out (HW2.out.drewN _).bl⟩
      · have hmm : m = L.length := by omega
        subst hmm
        have hyes : Hid ((dcGoodA ss k xs sv off) = true) := decide_eq_true (hgv2.out.2 fun p hp => by
          obtain ⟨j, hj, rfl⟩ := List.getElem_of_mem hp
          have := hv2.out j hj
          rw [List.getD_eq_getElem?_getD, List.getElem?_eq_getElem hj] at this
          exact this)
        go_wp2
        go_ret
        exact ⟨ret_bool hyes.out.symm, Bel.tr X2.out HW2.out.bl⟩
  · have hno : Hid ((dcGoodA ss k xs sv off) = false) := decide_eq_false (fun q => hv (hgv.out.1 q).1)
    have hdv : (dcValidV xs sv off) = false := dcValidV_f hv
    rw [hdv] at hvv
    have HV := hide hv
    clear hv
    go_enter Try.func30, Try.ntmps30
    go_wp2_with (go_at_call 50; rw [HW0.out]; refine hvv.out.mono ?_; rintro e w1 ⟨rfl, x1⟩)
    have hv := HV.out
    go_ret
    exact ⟨ret_bool hno.out.symm, Bel.tr X0.out x1⟩
end Go.Proofs.Ytbkdfhlbjaiahaa
namespace Go.Proofs.Ytbkdfhlbjaiahaa
open Go.ChangeShapes Go.RowKit FL
set_option linter.unusedSimpArgs false
set_option linter.unusedVariables false

set_option maxRecDepth 100000 in
set_option maxHeartbeats 2000000 in
theorem sVA_any {w : World} {v vS vT : Value} {ss : List St} {xs sv : List Int} (h : SV w v ss) (hg : SG ss) (hl : SL ss 1048576) (st : Int) (hS : Ints w vS xs) (hT : Ints w vT sv) (off : Int) (lx : xs.length ≤ 1048576) (ls : sv.length ≤ 1048576) :
    Calls Try.prog 12 #[.agg #[v], .agg #[.int .i64 st, vS, vT, .int .i64 off]] w fun e w' => e = .returned (.bool (vHeap ss && (dcGoodA ss st xs sv off))) ∧ Bel w w' := by
  obtain ⟨sa, cap, rfl, hx⟩ := h
  have h : SV w (.slice sa ss.length cap) ss := ⟨sa, cap, rfl, hx⟩
  have x0 : Ext w ((w.alloc (.cells #[.slice sa ss.length cap] 29)).alloc (.cells #[.int .i64 st, vS, vT, .int .i64 off] 42)) := ((Ext.refl w).alloc _ _).alloc _ _
  have y0 : Ext (w.alloc (.cells #[.slice sa ss.length cap] 29)) ((w.alloc (.cells #[.slice sa ss.length cap] 29)).alloc (.cells #[.int .i64 st, vS, vT, .int .i64 off] 42)) := (Ext.refl _).alloc _ _
  have n1 := fun j => new_cell w #[.slice sa ss.length cap] 29 w.heap.size rfl j
  have n2 := fun j => new_cell (w.alloc (.cells #[.slice sa ss.length cap] 29)) #[.int .i64 st, vS, vT, .int .i64 off] 42 (w.heap.size + 1) (by simp) j
  have C0 : Hid (((w.alloc (.cells #[.slice sa ss.length cap] 29)).alloc (.cells #[.int .i64 st, vS, vT, .int .i64 off] 42)).cell? ⟨w.heap.size, 0, none⟩ = some (.slice sa ss.length cap)) := y0.box (n1 0)
  have A0 : Hid (((w.alloc (.cells #[.slice sa ss.length cap] 29)).alloc (.cells #[.int .i64 st, vS, vT, .int .i64 off] 42)).cell? ⟨w.heap.size + 1, 0, none⟩ = some (.int .i64 st)) := n2 0
  have A1 : Hid (((w.alloc (.cells #[.slice sa ss.length cap] 29)).alloc (.cells #[.int .i64 st, vS, vT, .int .i64 off] 42)).cell? ⟨w.heap.size + 1, 1, none⟩ = some vS) := n2 1
  have A2 : Hid (((w.alloc (.cells #[.slice sa ss.length cap] 29)).alloc (.cells #[.int .i64 st, vS, vT, .int .i64 off] 42)).cell? ⟨w.heap.size + 1, 2, none⟩ = some vT) := n2 2
  have A3 : Hid (((w.alloc (.cells #[.slice sa ss.length cap] 29)).alloc (.cells #[.int .i64 st, vS, vT, .int .i64 off] 42)).cell? ⟨w.heap.size + 1, 3, none⟩ = some (.int .i64 off)) := n2 3
  have X0 := hide x0
  have HH := hide (h.keep x0.bl)
  have HS := hide (hS.ext x0)
  have HT := hide (hT.ext x0)
  have hvh := hide (sVH_any HH.out hg hl)
  clear hx h x0 y0 n1 n2
  obtain ⟨s1, d1, rfl, _⟩ := hS
  obtain ⟨s2, d2, rfl, _⟩ := hT
  generalize hW0 : (w.alloc (.cells #[.slice sa ss.length cap] 29)).alloc (.cells #[.int .i64 st, .slice s1 xs.length d1, .slice s2 sv.length d2, .int .i64 off] 42) = W0 at C0 A0 A1 A2 A3 X0 HH HS HT hvh
  have HW0 := hide hW0
  clear hW0
  cases hV : vHeap ss with
  | false =>
    rw [hV] at hvh
    go_enter Try.func12, Try.ntmps12
    go_wp2_with (go_at_call 7; rw [HW0.out]; refine hvh.out.mono ?_; rintro e w1 ⟨rfl, x1⟩)
    go_ret
    exact ⟨rfl, (X0.out.trans x1).bl⟩
  | true =>
    rw [hV] at hvh
    go_enter Try.func12, Try.ntmps12
    go_wp2_with (first | (go_at_call 7; rw [HW0.out]; refine hvh.out.mono ?_; rintro e w1 ⟨rfl, x1⟩; have c0' := x1.box C0.out; have a0' := x1.box A0.out; have a1' := x1.box A1.out; have a2' := x1.box A2.out; have a3' := x1.box A3.out; have HG := hide (l4Good_any (HH.out.keep x1.bl) hl st (HS.out.ext x1) (HT.out.ext x1) off lx ls); have X1 := hide (X0.out.trans x1); clear x1) | (go_at_call 30; refine HG.out.mono ?_; rintro e w2 ⟨rfl, x2⟩))
    go_ret
    exact ⟨rfl, Bel.tr X1.out.bl x2⟩
end Go.Proofs.Ytbkdfhlbjaiahaa
namespace Go.Proofs.Ytbkdfhlbjaiahaa
open Go.ChangeShapes Go.RowKit
set_option linter.unusedSimpArgs false
set_option linter.unusedVariables false

/-- A view as the program keeps it. -/
def vw (xs ss : List Int) (off : Int) : Array Value := #[.int .i64 xs.length, .int .i64 (xs.getD 0 0), .int .i64 (xs.getD 1 0), .int .i64 (xs.getD 2 0), .int .i64 (xs.getD 3 0), .int .i64 (ss.getD 0 0), .int .i64 (ss.getD 1 0), .int .i64 (ss.getD 2 0), .int .i64 (ss.getD 3 0), .int .i64 off]

def inB (xs ss : List Int) (off : Int) : Bool := decide (prod xs = 0 ∨ (0 ≤ least xs ss off ∧ most xs ss off < 4096))

theorem least_snoc : ∀ (xs ss : List Int) (n s a : Int), xs.length = ss.length → least (xs ++ [n]) (ss ++ [s]) a = least xs ss a + min (s * (n - 1)) 0
  | [], [], n, s, a, _ => by simp [least]
  | [], _ :: _, n, s, a, h => by simp at h
  | _ :: _, [], n, s, a, h => by simp at h
  | m :: ms, t :: ts, n, s, a, h => by
    simp only [List.cons_append, least]
    exact least_snoc ms ts n s _ (by simpa using h)
theorem most_snoc : ∀ (xs ss : List Int) (n s a : Int), xs.length = ss.length → most (xs ++ [n]) (ss ++ [s]) a = most xs ss a + max (s * (n - 1)) 0
  | [], [], n, s, a, _ => by simp [most]
  | [], _ :: _, n, s, a, h => by simp at h
  | _ :: _, [], n, s, a, h => by simp at h
  | m :: ms, t :: ts, n, s, a, h => by
    simp only [List.cons_append, most]
    exact most_snoc ms ts n s _ (by simpa using h)
theorem take_snoc (xs : List Int) (k : Nat) (hk : k < xs.length) : xs.take (k + 1) = xs.take k ++ [xs.getD k 0] := by
  rw [List.take_add_one, List.getElem?_eq_getElem hk, List.getD_eq_getElem?_getD, List.getElem?_eq_getElem hk]; rfl
theorem least_take (xs ss : List Int) (off : Int) (k : Nat) (hk : k < xs.length) (hl : ss.length = xs.length) :
    least (xs.take (k + 1)) (ss.take (k + 1)) off = least (xs.take k) (ss.take k) off + min (ss.getD k 0 * (xs.getD k 0 - 1)) 0 := by
  rw [take_snoc xs k hk, take_snoc ss k (by omega), least_snoc _ _ _ _ _ (by simp; omega)]
theorem most_take (xs ss : List Int) (off : Int) (k : Nat) (hk : k < xs.length) (hl : ss.length = xs.length) :
    most (xs.take (k + 1)) (ss.take (k + 1)) off = most (xs.take k) (ss.take k) off + max (ss.getD k 0 * (xs.getD k 0 - 1)) 0 := by
  rw [take_snoc xs k hk, take_snoc ss k (by omega), most_snoc _ _ _ _ _ (by simp; omega)]
theorem far_bd {n s : Int} (hn : 0 ≤ n ∧ n ≤ 4096) (hs : -4096 ≤ s ∧ s ≤ 4096) : -16777216 ≤ s * (n - 1) ∧ s * (n - 1) ≤ 16777216 := by
  by_cases h : n = 0
  · subst h; omega
  · have := mul_between (n - 1) 4096 s (by omega) (by omega)
    rw [Int.mul_comm s (n - 1)]
    omega
theorem ends_bd (xs ss : List Int) (off : Int) (hl : ss.length = xs.length) (hr : InR xs xs.length) (hs : InS ss ss.length) (ho : 0 ≤ off ∧ off ≤ 4096) :
    ∀ k, k ≤ xs.length → (-((k : Int) * 16777216) ≤ least (xs.take k) (ss.take k) off ∧ least (xs.take k) (ss.take k) off ≤ 4096 ∧ 0 ≤ most (xs.take k) (ss.take k) off ∧ most (xs.take k) (ss.take k) off ≤ 4096 + (k : Int) * 16777216)
  | 0, _ => by simp [least, most]; omega
  | k + 1, hk => by
    have ih := ends_bd xs ss off hl hr hs ho k (by omega)
    rw [least_take xs ss off k (by omega) hl, most_take xs ss off k (by omega) hl]
    have := far_bd (hr k (by omega)) (hs k (by omega))
    omega

set_option maxRecDepth 100000 in
set_option maxHeartbeats 2000000 in
theorem within_any (w : World) (xs ss : List Int) (off : Int) (h4 : xs.length ≤ 4) (hr : InR xs xs.length) (hl : ss.length = xs.length) (hs : InS ss ss.length) (ho : 0 ≤ off ∧ off ≤ 4096) :
    Calls Try.prog 54 #[.agg (vw xs ss off), .int .i64 4096] w fun e w' => e = .returned (.bool (inB xs ss off)) ∧ Ext w w' := by
  have hcnt := hide (fun W => count_any W xs h4 hr)
  have x0 : Ext w ((w.alloc (.cells (vw xs ss off) 75)).alloc (.cells (shp xs) 73)) := ((Ext.refl w).alloc _ _).alloc _ _
  have y0 : Ext (w.alloc (.cells (vw xs ss off) 75)) ((w.alloc (.cells (vw xs ss off) 75)).alloc (.cells (shp xs) 73)) := (Ext.refl _).alloc _ _
  have n1 := fun j => new_cell w (vw xs ss off) 75 w.heap.size rfl j
  have f0 := y0.box (n1 0)
  have f9 := y0.box (n1 9)
  have fl : ∀ j, j < 4 → ((w.alloc (.cells (vw xs ss off) 75)).alloc (.cells (shp xs) 73)).cell? ⟨w.heap.size, 1 + j, none⟩ = some (.int .i64 (xs.getD j 0)) := fun j hj => by
    obtain rfl | rfl | rfl | rfl : j = 0 ∨ j = 1 ∨ j = 2 ∨ j = 3 := by omega
    exact y0.box (n1 1)
    exact y0.box (n1 2)
    exact y0.box (n1 3)
    exact y0.box (n1 4)
  have fs : ∀ j, j < 4 → ((w.alloc (.cells (vw xs ss off) 75)).alloc (.cells (shp xs) 73)).cell? ⟨w.heap.size, 5 + j, none⟩ = some (.int .i64 (ss.getD j 0)) := fun j hj => by
    obtain rfl | rfl | rfl | rfl : j = 0 ∨ j = 1 ∨ j = 2 ∨ j = 3 := by omega
    exact y0.box (n1 5)
    exact y0.box (n1 6)
    exact y0.box (n1 7)
    exact y0.box (n1 8)
  have X0 := hide x0
  have FL := hide fl
  have FxS' := hide fs
  clear x0 y0 n1 fl fs
  unfold shp vw at *
  generalize xs.getD 0 0 = a0 at *
  generalize xs.getD 1 0 = a1 at *
  generalize xs.getD 2 0 = a2 at *
  generalize xs.getD 3 0 = a3 at *
  generalize ss.getD 0 0 = b0 at *
  generalize ss.getD 1 0 = b1 at *
  generalize ss.getD 2 0 = b2 at *
  generalize ss.getD 3 0 = b3 at *
  have h4' : (xs.length : Int) ≤ 4 := by omega
  have Hl := hide hl
  have HR := hide hr
  have HS := hide hs
  clear hl hr hs
  go_enter Try.func54, Try.ntmps54
  go_wp2_with fail
  refine (hcnt.out _).mono ?_
  rintro e w1 ⟨rfl, rfl⟩
  by_cases hp : prod xs = 0
  · have hyes : Hid (inB xs ss off = true) := decide_eq_true (Or.inl hp)
    rw [hp]
    go_wp2
    go_ret
    exact ⟨ret_bool hyes.out.symm, X0.out⟩
  · have hpn : (prod xs == 0) = false := by simp [hp]
    have hin : Hid (inB xs ss off = decide (0 ≤ least xs ss off ∧ most xs ss off < 4096)) := decide_eq_decide.2 ⟨fun q => q.resolve_left hp, Or.inr⟩
    generalize prod xs = P at hpn ⊢
    go_wp2_with fail
    generalize hW1 : (w.alloc (.cells #[.int .i64 xs.length, .int .i64 a0, .int .i64 a1, .int .i64 a2, .int .i64 a3, .int .i64 b0, .int .i64 b1, .int .i64 b2, .int .i64 b3, .int .i64 off] 75)).alloc (.cells #[.int .i64 xs.length, .int .i64 a0, .int .i64 a1, .int .i64 a2, .int .i64 a3] 73) = W1 at X0 FL FxS' f0 f9 ⊢
    clear hW1
    have g0 : W1.cell? ⟨w.heap.size, 0, none⟩ = some (.int .i64 xs.length) := f0
    have g9 : W1.cell? ⟨w.heap.size, 9, none⟩ = some (.int .i64 off) := f9
    clear f0 f9
    go_region
    all_goals go_wp2
    go_loopw [5, 6, 24] (fun a b i wr => ∃ k : Nat, i = .int .i64 k ∧ a = .int .i64 (least (xs.take k) (ss.take k) off) ∧ b = .int .i64 (most (xs.take k) (ss.take k) off) ∧ k ≤ xs.length ∧ Ext W1 wr) (fun a b i _ => xs.length - (intOf i).toNat)
    case atStart => exact ⟨0, rfl, by simp [least], by simp [most], by omega, (Ext.refl W1).drew⟩
    case round =>
      obtain ⟨k, rfl, rfl, rfl, hk, hx⟩ := hrel
      have HX := hide hx
      clear hx
      have hb := ends_bd xs ss off Hl.out HR.out HS.out ho k hk
      have hk4 : (k : Int) * 16777216 ≤ 67108864 := by omega
      by_cases hlt : k < xs.length
      · have q0 := HX.out.box (FL.out k (by omega))
        have q1 := HX.out.box (FxS'.out k (by omega))
        have hk0 : (0 : Int) ≤ (k : Int) := Int.natCast_nonneg _
        have hk1 : (k : Int) < (xs.length : Int) := by omega
        have hk44 : (k : Int) < 4 := by omega
        have hlt1 := least_take xs ss off k hlt Hl.out
        have hmt1 := most_take xs ss off k hlt Hl.out
        have hfar := far_bd (HR.out k hlt) (HS.out k (by have := Hl.out; omega))
        have hnr := HR.out k hlt
        generalize xs.getD k 0 = n at q0 hlt1 hmt1 hfar hnr
        generalize ss.getD k 0 = s at q1 hlt1 hmt1 hfar
        generalize hA : least (xs.take (k + 1)) (ss.take (k + 1)) off = A at hlt1
        generalize hB : most (xs.take (k + 1)) (ss.take (k + 1)) off = B at hmt1
        generalize least (xs.take k) (ss.take k) off = a at hlt1 hb ⊢
        generalize most (xs.take k) (ss.take k) off = b at hmt1 hb ⊢
        have HA := hide hA
        have HB := hide hB
        clear hA hB
        subst hlt1
        subst hmt1
        go_wp2
        refine ⟨⟨k + 1, by go_num, ?_, ?_, by omega, HX.out⟩, by simp [intOf]; omega⟩
        · rw [HA.out]
          have e : (if 0 < s * (n - 1) then 0 else s * (n - 1)) = min (s * (n - 1)) 0 := by split <;> omega
          rw [e]
        · rw [HB.out]
          have e : (if s * (n - 1) < 0 then 0 else s * (n - 1)) = max (s * (n - 1)) 0 := by split <;> omega
          rw [e]
      · have hkk : k = xs.length := by omega
        subst hkk
        have e1 : xs.take xs.length = xs := List.take_length
        have e2 : ss.take xs.length = ss := List.take_of_length_le (by have := Hl.out; omega)
        rw [e1, e2]
        clear hb e1 e2
        generalize least xs ss off = a at hin ⊢
        generalize most xs ss off = b at hin ⊢
        by_cases ha : 0 ≤ a
        · by_cases hb : b < 4096
          · have hv : Hid (inB xs ss off = true) := by show inB xs ss off = true; rw [hin.out]; exact decide_eq_true ⟨ha, hb⟩
            go_wp2
            go_ret
            exact ⟨by rw [hv.out]; first | rfl | simp [ha, hb], X0.out.trans HX.out⟩
          · have hv : Hid (inB xs ss off = false) := by show inB xs ss off = false; rw [hin.out]; exact decide_eq_false (fun q => hb q.2)
            go_wp2
            go_ret
            exact ⟨by rw [hv.out]; first | rfl | simp [ha, hb], X0.out.trans HX.out⟩
        · have hv : Hid (inB xs ss off = false) := by show inB xs ss off = false; rw [hin.out]; exact decide_eq_false (fun q => ha q.1)
          go_wp2
          go_ret
          exact ⟨by rw [hv.out]; first | rfl | simp [ha], X0.out.trans HX.out⟩
end Go.Proofs.Ytbkdfhlbjaiahaa
namespace Go.Proofs.Ytbkdfhlbjaiahaa
open Go.ChangeShapes Go.RowKit
set_option linter.unusedSimpArgs false
set_option linter.unusedVariables false
def inN (xs ss : List Int) (off N : Int) : Bool := decide (prod xs = 0 ∨ (0 ≤ least xs ss off ∧ most xs ss off < N))

set_option maxRecDepth 100000 in
set_option maxHeartbeats 2000000 in
theorem within_n (N : Int) (hN : 0 ≤ N ∧ N ≤ 1048576) (w : World) (xs ss : List Int) (off : Int) (h4 : xs.length ≤ 4) (hr : InR xs xs.length) (hl : ss.length = xs.length) (hs : InS ss ss.length) (ho : 0 ≤ off ∧ off ≤ 4096) :
    Calls Try.prog 54 #[.agg (vw xs ss off), .int .i64 N] w fun e w' => e = .returned (.bool (inN xs ss off N)) ∧ Ext w w' := by
  have hcnt := hide (fun W => count_any W xs h4 hr)
  have x0 : Ext w ((w.alloc (.cells (vw xs ss off) 75)).alloc (.cells (shp xs) 73)) := ((Ext.refl w).alloc _ _).alloc _ _
  have y0 : Ext (w.alloc (.cells (vw xs ss off) 75)) ((w.alloc (.cells (vw xs ss off) 75)).alloc (.cells (shp xs) 73)) := (Ext.refl _).alloc _ _
  have n1 := fun j => new_cell w (vw xs ss off) 75 w.heap.size rfl j
  have f0 := y0.box (n1 0)
  have f9 := y0.box (n1 9)
  have fl : ∀ j, j < 4 → ((w.alloc (.cells (vw xs ss off) 75)).alloc (.cells (shp xs) 73)).cell? ⟨w.heap.size, 1 + j, none⟩ = some (.int .i64 (xs.getD j 0)) := fun j hj => by
    obtain rfl | rfl | rfl | rfl : j = 0 ∨ j = 1 ∨ j = 2 ∨ j = 3 := by omega
    exact y0.box (n1 1)
    exact y0.box (n1 2)
    exact y0.box (n1 3)
    exact y0.box (n1 4)
  have fs : ∀ j, j < 4 → ((w.alloc (.cells (vw xs ss off) 75)).alloc (.cells (shp xs) 73)).cell? ⟨w.heap.size, 5 + j, none⟩ = some (.int .i64 (ss.getD j 0)) := fun j hj => by
    obtain rfl | rfl | rfl | rfl : j = 0 ∨ j = 1 ∨ j = 2 ∨ j = 3 := by omega
    exact y0.box (n1 5)
    exact y0.box (n1 6)
    exact y0.box (n1 7)
    exact y0.box (n1 8)
  have X0 := hide x0
  have FL := hide fl
  have FxS' := hide fs
  clear x0 y0 n1 fl fs
  unfold shp vw at *
  generalize xs.getD 0 0 = a0 at *
  generalize xs.getD 1 0 = a1 at *
  generalize xs.getD 2 0 = a2 at *
  generalize xs.getD 3 0 = a3 at *
  generalize ss.getD 0 0 = b0 at *
  generalize ss.getD 1 0 = b1 at *
  generalize ss.getD 2 0 = b2 at *
  generalize ss.getD 3 0 = b3 at *
  have h4' : (xs.length : Int) ≤ 4 := by omega
  have Hl := hide hl
  have HR := hide hr
  have HS := hide hs
  clear hl hr hs
  go_enter Try.func54, Try.ntmps54
  go_wp2_with fail
  refine (hcnt.out _).mono ?_
  rintro e w1 ⟨rfl, rfl⟩
  by_cases hp : prod xs = 0
  · have hyes : Hid (inN xs ss off N = true) := decide_eq_true (Or.inl hp)
    rw [hp]
    go_wp2
    go_ret
    exact ⟨ret_bool hyes.out.symm, X0.out⟩
  · have hpn : (prod xs == 0) = false := by simp [hp]
    have hin : Hid (inN xs ss off N = decide (0 ≤ least xs ss off ∧ most xs ss off < N)) := decide_eq_decide.2 ⟨fun q => q.resolve_left hp, Or.inr⟩
    generalize prod xs = P at hpn ⊢
    go_wp2_with fail
    generalize hW1 : (w.alloc (.cells #[.int .i64 xs.length, .int .i64 a0, .int .i64 a1, .int .i64 a2, .int .i64 a3, .int .i64 b0, .int .i64 b1, .int .i64 b2, .int .i64 b3, .int .i64 off] 75)).alloc (.cells #[.int .i64 xs.length, .int .i64 a0, .int .i64 a1, .int .i64 a2, .int .i64 a3] 73) = W1 at X0 FL FxS' f0 f9 ⊢
    clear hW1
    have g0 : W1.cell? ⟨w.heap.size, 0, none⟩ = some (.int .i64 xs.length) := f0
    have g9 : W1.cell? ⟨w.heap.size, 9, none⟩ = some (.int .i64 off) := f9
    clear f0 f9
    go_region
    all_goals go_wp2
    go_loopw [5, 6, 24] (fun a b i wr => ∃ k : Nat, i = .int .i64 k ∧ a = .int .i64 (least (xs.take k) (ss.take k) off) ∧ b = .int .i64 (most (xs.take k) (ss.take k) off) ∧ k ≤ xs.length ∧ Ext W1 wr) (fun a b i _ => xs.length - (intOf i).toNat)
    case atStart => exact ⟨0, rfl, by simp [least], by simp [most], by omega, (Ext.refl W1).drew⟩
    case round =>
      obtain ⟨k, rfl, rfl, rfl, hk, hx⟩ := hrel
      have HX := hide hx
      clear hx
      have hb := ends_bd xs ss off Hl.out HR.out HS.out ho k hk
      have hk4 : (k : Int) * 16777216 ≤ 67108864 := by omega
      by_cases hlt : k < xs.length
      · have q0 := HX.out.box (FL.out k (by omega))
        have q1 := HX.out.box (FxS'.out k (by omega))
        have hk0 : (0 : Int) ≤ (k : Int) := Int.natCast_nonneg _
        have hk1 : (k : Int) < (xs.length : Int) := by omega
        have hk44 : (k : Int) < 4 := by omega
        have hlt1 := least_take xs ss off k hlt Hl.out
        have hmt1 := most_take xs ss off k hlt Hl.out
        have hfar := far_bd (HR.out k hlt) (HS.out k (by have := Hl.out; omega))
        have hnr := HR.out k hlt
        generalize xs.getD k 0 = n at q0 hlt1 hmt1 hfar hnr
        generalize ss.getD k 0 = s at q1 hlt1 hmt1 hfar
        generalize hA : least (xs.take (k + 1)) (ss.take (k + 1)) off = A at hlt1
        generalize hB : most (xs.take (k + 1)) (ss.take (k + 1)) off = B at hmt1
        generalize least (xs.take k) (ss.take k) off = a at hlt1 hb ⊢
        generalize most (xs.take k) (ss.take k) off = b at hmt1 hb ⊢
        have HA := hide hA
        have HB := hide hB
        clear hA hB
        subst hlt1
        subst hmt1
        go_wp2
        refine ⟨⟨k + 1, by go_num, ?_, ?_, by omega, HX.out⟩, by simp [intOf]; omega⟩
        · rw [HA.out]
          have e : (if 0 < s * (n - 1) then 0 else s * (n - 1)) = min (s * (n - 1)) 0 := by split <;> omega
          rw [e]
        · rw [HB.out]
          have e : (if s * (n - 1) < 0 then 0 else s * (n - 1)) = max (s * (n - 1)) 0 := by split <;> omega
          rw [e]
      · have hkk : k = xs.length := by omega
        subst hkk
        have e1 : xs.take xs.length = xs := List.take_length
        have e2 : ss.take xs.length = ss := List.take_of_length_le (by have := Hl.out; omega)
        rw [e1, e2]
        clear hb e1 e2
        generalize least xs ss off = a at hin ⊢
        generalize most xs ss off = b at hin ⊢
        by_cases ha : 0 ≤ a
        · by_cases hb : b < N
          · have hv : Hid (inN xs ss off N = true) := by show inN xs ss off N = true; rw [hin.out]; exact decide_eq_true ⟨ha, hb⟩
            go_wp2
            go_ret
            exact ⟨by rw [hv.out]; first | rfl | simp [ha, hb], X0.out.trans HX.out⟩
          · have hv : Hid (inN xs ss off N = false) := by show inN xs ss off N = false; rw [hin.out]; exact decide_eq_false (fun q => hb q.2)
            go_wp2
            go_ret
            exact ⟨by rw [hv.out]; first | rfl | simp [ha, hb], X0.out.trans HX.out⟩
        · have hv : Hid (inN xs ss off N = false) := by show inN xs ss off N = false; rw [hin.out]; exact decide_eq_false (fun q => ha q.1)
          go_wp2
          go_ret
          exact ⟨by rw [hv.out]; first | rfl | simp [ha], X0.out.trans HX.out⟩
end Go.Proofs.Ytbkdfhlbjaiahaa
namespace Go.Proofs.Ytbkdfhlbjaiahaa
open Go.ChangeShapes Go.RowKit
set_option linter.unusedSimpArgs false
set_option linter.unusedVariables false

def FixVOk (w : World) (xs ss : List Int) (off : Int) (e : Ending) (w' : World) : Prop :=
  ∃ A : Array Value, e = .returned (.tuple #[.agg A, .bool (dcValidV xs ss off)]) ∧ (ValidV xs ss off → A = vw xs ss off) ∧ (∃ a0 a1 a2 a3 a4 a5 a6 a7 a8 a9 : Int, A = #[.int .i64 a0, .int .i64 a1, .int .i64 a2, .int .i64 a3, .int .i64 a4, .int .i64 a5, .int .i64 a6, .int .i64 a7, .int .i64 a8, .int .i64 a9]) ∧ Ext w w'

theorem bad_fv {w w' : World} {xs ss : List Int} {off : Int} (h : (dcValidV xs ss off) = false) (x : Ext w w') : FixVOk w xs ss off (.returned (.tuple #[.agg #[.int .i64 0, .int .i64 0, .int .i64 0, .int .i64 0, .int .i64 0, .int .i64 0, .int .i64 0, .int .i64 0, .int .i64 0, .int .i64 0], .bool false])) w' :=
  ⟨_, by rw [h], fun q => absurd q (of_decide_eq_false h), ⟨0, 0, 0, 0, 0, 0, 0, 0, 0, 0, rfl⟩, x⟩

theorem zs {W : World} {R : Nat} (h : ∀ j, j < 10 → W.cell? ⟨R, j, none⟩ = some (.int .i64 0)) (i : Nat) : ∀ j, j < 10 → (W.setCell ⟨R, i, none⟩ (.int .i64 0)).cell? ⟨R, j, none⟩ = some (.int .i64 0) := fun j hj => by
  by_cases e : i = j
  · subst e; exact World.cell?_setCell_same _ _ _ (h i hj)
  · rw [World.cell?_setCell_other _ _ _ _ (by intro h; simp only [Addr.mk.injEq] at h; omega)]; exact h j hj

/-- The world of the loop. -/
structure FVS (w wr : World) (B : Nat) (vS vT : Value) (xs ss : List Int) (off : Int) (k : Nat) : Prop where
  v1 : wr.cell? ⟨w.heap.size, 1, none⟩ = some vT
  r : ∀ j, j < 10 → wr.cell? ⟨w.heap.size + 1, j, none⟩ = some (.int .i64 0)
  f0 : wr.cell? ⟨B, 0, none⟩ = some (.int .i64 xs.length)
  fl : ∀ j, j < 4 → wr.cell? ⟨B, 1 + j, none⟩ = some (.int .i64 (xs.getD j 0))
  fs : ∀ j, j < 4 → wr.cell? ⟨B, 5 + j, none⟩ = some (.int .i64 (if j < k then ss.getD j 0 else 0))
  f9 : wr.cell? ⟨B, 9, none⟩ = some (.int .i64 off)
  ex : Ext w wr

theorem FVS.step {w wr : World} {B : Nat} {vS vT : Value} {xs ss : List Int} {off : Int} {k : Nat} (h : FVS w wr B vS vT xs ss off k) (hk : k < 4) (hB : w.heap.size + 1 < B) :
    FVS w (wr.setCell ⟨B, 5 + k, none⟩ (.int .i64 (ss.getD k 0))) B vS vT xs ss off (k + 1) := by
  have m : Mut B wr (wr.setCell ⟨B, 5 + k, none⟩ (.int .i64 (ss.getD k 0))) := (Mut.refl _ _).setCell _ _
  refine ⟨m.box (by omega) h.v1, fun j hj => m.box (by omega) (h.r j hj), ?_, fun j hj => ?_, fun j hj => ?_, ?_, h.ex.setCell (by show w.heap.size ≤ B; omega) _⟩
  · rw [World.cell?_setCell_other _ _ _ _ (by intro h; simp only [Addr.mk.injEq] at h; omega)]; exact h.f0
  · rw [World.cell?_setCell_other _ _ _ _ (by intro h; simp only [Addr.mk.injEq] at h; omega)]; exact h.fl j hj
  · by_cases e : j = k
    · subst e
      rw [if_pos (by omega)]
      exact World.cell?_setCell_same _ _ _ (h.fs j hj)
    · rw [World.cell?_setCell_other _ _ _ _ (by intro h; simp only [Addr.mk.injEq] at h; omega), h.fs j hj]
      by_cases h1 : j < k
      · rw [if_pos h1, if_pos (by omega)]
      · rw [if_neg h1, if_neg (by omega)]
  · rw [World.cell?_setCell_other _ _ _ _ (by intro h; simp only [Addr.mk.injEq] at h; omega)]; exact h.f9

set_option maxRecDepth 100000 in
set_option maxHeartbeats 1000000 in
/-- A view that is refused ahead of the loop over its strides. -/
theorem fixView_bad {w : World} {vS vT : Value} {xs ss : List Int} (hS : Ints w vS xs) (hT : Ints w vT ss) (off : Int) (lx : xs.length ≤ 1048576) (ls : ss.length ≤ 1048576) (hbad : ¬ (Good xs ∧ ss.length = xs.length ∧ (0 ≤ off ∧ off ≤ 4096))) :
    Calls Try.prog 53 #[.agg #[vS, vT, .int .i64 off]] w fun e w' => FixVOk w xs ss off e w' := by
  obtain ⟨sa, cap, rfl, rS⟩ := hS
  obtain ⟨ta, dap, rfl, rT⟩ := hT
  have x0 : Ext w ((w.alloc (.cells #[.slice sa xs.length cap, .slice ta ss.length dap, .int .i64 off] 40)).alloc (.cells #[.int .i64 0, .int .i64 0, .int .i64 0, .int .i64 0, .int .i64 0, .int .i64 0, .int .i64 0, .int .i64 0, .int .i64 0, .int .i64 0] 75)) := ((Ext.refl w).alloc _ _).alloc _ _
  have y0 : Ext (w.alloc (.cells #[.slice sa xs.length cap, .slice ta ss.length dap, .int .i64 off] 40)) ((w.alloc (.cells #[.slice sa xs.length cap, .slice ta ss.length dap, .int .i64 off] 40)).alloc (.cells #[.int .i64 0, .int .i64 0, .int .i64 0, .int .i64 0, .int .i64 0, .int .i64 0, .int .i64 0, .int .i64 0, .int .i64 0, .int .i64 0] 75)) := (Ext.refl _).alloc _ _
  have HS : Hid (Ints ((w.alloc (.cells #[.slice sa xs.length cap, .slice ta ss.length dap, .int .i64 off] 40)).alloc (.cells #[.int .i64 0, .int .i64 0, .int .i64 0, .int .i64 0, .int .i64 0, .int .i64 0, .int .i64 0, .int .i64 0, .int .i64 0, .int .i64 0] 75)) (.slice sa xs.length cap) xs) := Ints.ext ⟨sa, cap, rfl, rS⟩ x0
  have HT : Hid (Ints ((w.alloc (.cells #[.slice sa xs.length cap, .slice ta ss.length dap, .int .i64 off] 40)).alloc (.cells #[.int .i64 0, .int .i64 0, .int .i64 0, .int .i64 0, .int .i64 0, .int .i64 0, .int .i64 0, .int .i64 0, .int .i64 0, .int .i64 0] 75)) (.slice ta ss.length dap) ss) := Ints.ext ⟨ta, dap, rfl, rT⟩ x0
  have n1 := fun j => new_cell w #[.slice sa xs.length cap, .slice ta ss.length dap, .int .i64 off] 40 w.heap.size rfl j
  have n2 := fun j => new_cell (w.alloc (.cells #[.slice sa xs.length cap, .slice ta ss.length dap, .int .i64 off] 40)) #[.int .i64 0, .int .i64 0, .int .i64 0, .int .i64 0, .int .i64 0, .int .i64 0, .int .i64 0, .int .i64 0, .int .i64 0, .int .i64 0] 75 (w.heap.size + 1) (by simp) j
  have k0 := y0.box (n1 0)
  have k1 := y0.box (n1 1)
  have k2 := y0.box (n1 2)
  have z0 : ((w.alloc (.cells #[.slice sa xs.length cap, .slice ta ss.length dap, .int .i64 off] 40)).alloc (.cells #[.int .i64 0, .int .i64 0, .int .i64 0, .int .i64 0, .int .i64 0, .int .i64 0, .int .i64 0, .int .i64 0, .int .i64 0, .int .i64 0] 75)).cell? ⟨w.heap.size + 1, 0, none⟩ = some (.int .i64 0) := n2 0
  have z1 : ((w.alloc (.cells #[.slice sa xs.length cap, .slice ta ss.length dap, .int .i64 off] 40)).alloc (.cells #[.int .i64 0, .int .i64 0, .int .i64 0, .int .i64 0, .int .i64 0, .int .i64 0, .int .i64 0, .int .i64 0, .int .i64 0, .int .i64 0] 75)).cell? ⟨w.heap.size + 1, 1, none⟩ = some (.int .i64 0) := n2 1
  have z2 : ((w.alloc (.cells #[.slice sa xs.length cap, .slice ta ss.length dap, .int .i64 off] 40)).alloc (.cells #[.int .i64 0, .int .i64 0, .int .i64 0, .int .i64 0, .int .i64 0, .int .i64 0, .int .i64 0, .int .i64 0, .int .i64 0, .int .i64 0] 75)).cell? ⟨w.heap.size + 1, 2, none⟩ = some (.int .i64 0) := n2 2
  have z3 : ((w.alloc (.cells #[.slice sa xs.length cap, .slice ta ss.length dap, .int .i64 off] 40)).alloc (.cells #[.int .i64 0, .int .i64 0, .int .i64 0, .int .i64 0, .int .i64 0, .int .i64 0, .int .i64 0, .int .i64 0, .int .i64 0, .int .i64 0] 75)).cell? ⟨w.heap.size + 1, 3, none⟩ = some (.int .i64 0) := n2 3
  have z4 : ((w.alloc (.cells #[.slice sa xs.length cap, .slice ta ss.length dap, .int .i64 off] 40)).alloc (.cells #[.int .i64 0, .int .i64 0, .int .i64 0, .int .i64 0, .int .i64 0, .int .i64 0, .int .i64 0, .int .i64 0, .int .i64 0, .int .i64 0] 75)).cell? ⟨w.heap.size + 1, 4, none⟩ = some (.int .i64 0) := n2 4
  have z5 : ((w.alloc (.cells #[.slice sa xs.length cap, .slice ta ss.length dap, .int .i64 off] 40)).alloc (.cells #[.int .i64 0, .int .i64 0, .int .i64 0, .int .i64 0, .int .i64 0, .int .i64 0, .int .i64 0, .int .i64 0, .int .i64 0, .int .i64 0] 75)).cell? ⟨w.heap.size + 1, 5, none⟩ = some (.int .i64 0) := n2 5
  have z6 : ((w.alloc (.cells #[.slice sa xs.length cap, .slice ta ss.length dap, .int .i64 off] 40)).alloc (.cells #[.int .i64 0, .int .i64 0, .int .i64 0, .int .i64 0, .int .i64 0, .int .i64 0, .int .i64 0, .int .i64 0, .int .i64 0, .int .i64 0] 75)).cell? ⟨w.heap.size + 1, 6, none⟩ = some (.int .i64 0) := n2 6
  have z7 : ((w.alloc (.cells #[.slice sa xs.length cap, .slice ta ss.length dap, .int .i64 off] 40)).alloc (.cells #[.int .i64 0, .int .i64 0, .int .i64 0, .int .i64 0, .int .i64 0, .int .i64 0, .int .i64 0, .int .i64 0, .int .i64 0, .int .i64 0] 75)).cell? ⟨w.heap.size + 1, 7, none⟩ = some (.int .i64 0) := n2 7
  have z8 : ((w.alloc (.cells #[.slice sa xs.length cap, .slice ta ss.length dap, .int .i64 off] 40)).alloc (.cells #[.int .i64 0, .int .i64 0, .int .i64 0, .int .i64 0, .int .i64 0, .int .i64 0, .int .i64 0, .int .i64 0, .int .i64 0, .int .i64 0] 75)).cell? ⟨w.heap.size + 1, 8, none⟩ = some (.int .i64 0) := n2 8
  have z9 : ((w.alloc (.cells #[.slice sa xs.length cap, .slice ta ss.length dap, .int .i64 off] 40)).alloc (.cells #[.int .i64 0, .int .i64 0, .int .i64 0, .int .i64 0, .int .i64 0, .int .i64 0, .int .i64 0, .int .i64 0, .int .i64 0, .int .i64 0] 75)).cell? ⟨w.heap.size + 1, 9, none⟩ = some (.int .i64 0) := n2 9
  have HrT := hide rT
  have X0 := hide x0
  clear n1 n2 x0 y0 rS rT
  go_enter Try.func53, Try.ntmps53
  go_wp2_with fail
  refine (fixShape_any HS.out (by omega)).mono ?_
  rintro e w1 ⟨n, a0, a1, a2, a3, rfl, hX, x1⟩
  have y1 : Ext w1 (w1.alloc (.cells #[.int .i64 n, .int .i64 a0, .int .i64 a1, .int .i64 a2, .int .i64 a3] 73)) := (Ext.refl w1).alloc _ _
  have n3 := fun j => new_cell w1 #[.int .i64 n, .int .i64 a0, .int .i64 a1, .int .i64 a2, .int .i64 a3] 73 w1.heap.size rfl j
  have s0 : (w1.alloc (.cells #[.int .i64 n, .int .i64 a0, .int .i64 a1, .int .i64 a2, .int .i64 a3] 73)).cell? ⟨w1.heap.size, 0, none⟩ = some (.int .i64 n) := n3 0
  have s1 : (w1.alloc (.cells #[.int .i64 n, .int .i64 a0, .int .i64 a1, .int .i64 a2, .int .i64 a3] 73)).cell? ⟨w1.heap.size, 1, none⟩ = some (.int .i64 a0) := n3 1
  have s2 : (w1.alloc (.cells #[.int .i64 n, .int .i64 a0, .int .i64 a1, .int .i64 a2, .int .i64 a3] 73)).cell? ⟨w1.heap.size, 2, none⟩ = some (.int .i64 a1) := n3 2
  have s3 : (w1.alloc (.cells #[.int .i64 n, .int .i64 a0, .int .i64 a1, .int .i64 a2, .int .i64 a3] 73)).cell? ⟨w1.heap.size, 3, none⟩ = some (.int .i64 a2) := n3 3
  have s4 : (w1.alloc (.cells #[.int .i64 n, .int .i64 a0, .int .i64 a1, .int .i64 a2, .int .i64 a3] 73)).cell? ⟨w1.heap.size, 4, none⟩ = some (.int .i64 a3) := n3 4
  have v0 := x1.box k0
  have vv0 := y1.box v0
  have v1 := x1.box k1
  have vv1 := y1.box v1
  have v2 := x1.box k2
  have vv2 := y1.box v2
  have r0 := x1.box z0
  have r1 := x1.box z1
  have r2 := x1.box z2
  have r3 := x1.box z3
  have r4 := x1.box z4
  have r5 := x1.box z5
  have r6 := x1.box z6
  have r7 := x1.box z7
  have r8 := x1.box z8
  have r9 := x1.box z9
  have X1 := hide ((X0.out.trans x1).trans y1)
  have hB1 : w.heap.size + 1 < w1.heap.size := cell_lt (x1.box z0)
  have HX := hide hX
  have Hr : Hid (∀ j, j < 10 → w1.cell? ⟨w.heap.size + 1, j, none⟩ = some (.int .i64 0)) := fun j hj => by
    obtain rfl | rfl | rfl | rfl | rfl | rfl | rfl | rfl | rfl | rfl : j = 0 ∨ j = 1 ∨ j = 2 ∨ j = 3 ∨ j = 4 ∨ j = 5 ∨ j = 6 ∨ j = 7 ∨ j = 8 ∨ j = 9 := by omega
    all_goals assumption
  have XW1 := hide (X0.out.trans x1)
  have rf := fun o => (X0.out.trans x1).unfrozen (b := w.heap.size + 1) (by omega) o
  clear hX n3 k0 k1 k2 y1 x1 HS HT z0 z1 z2 z3 z4 z5 z6 z7 z8 z9
  cases hg : goodB xs
  · have Hno : Hid ((dcValidV xs ss off) = false) := decide_eq_false (fun q => absurd q.1 (of_decide_eq_false hg))
    go_wp2
    have Zz := (zs (zs (zs (zs (zs (zs (zs (zs (zs (zs Hr.out 0) 1) 2) 3) 4) 5) 6) 7) 8) 9)
    have e0 := ((Ext.refl _).alloc #[.int .i64 n, .int .i64 a0, .int .i64 a1, .int .i64 a2, .int .i64 a3] 73).box (Zz 0 (by omega))
    have e1 := ((Ext.refl _).alloc #[.int .i64 n, .int .i64 a0, .int .i64 a1, .int .i64 a2, .int .i64 a3] 73).box (Zz 1 (by omega))
    have e2 := ((Ext.refl _).alloc #[.int .i64 n, .int .i64 a0, .int .i64 a1, .int .i64 a2, .int .i64 a3] 73).box (Zz 2 (by omega))
    have e3 := ((Ext.refl _).alloc #[.int .i64 n, .int .i64 a0, .int .i64 a1, .int .i64 a2, .int .i64 a3] 73).box (Zz 3 (by omega))
    have e4 := ((Ext.refl _).alloc #[.int .i64 n, .int .i64 a0, .int .i64 a1, .int .i64 a2, .int .i64 a3] 73).box (Zz 4 (by omega))
    have e5 := ((Ext.refl _).alloc #[.int .i64 n, .int .i64 a0, .int .i64 a1, .int .i64 a2, .int .i64 a3] 73).box (Zz 5 (by omega))
    have e6 := ((Ext.refl _).alloc #[.int .i64 n, .int .i64 a0, .int .i64 a1, .int .i64 a2, .int .i64 a3] 73).box (Zz 6 (by omega))
    have e7 := ((Ext.refl _).alloc #[.int .i64 n, .int .i64 a0, .int .i64 a1, .int .i64 a2, .int .i64 a3] 73).box (Zz 7 (by omega))
    have e8 := ((Ext.refl _).alloc #[.int .i64 n, .int .i64 a0, .int .i64 a1, .int .i64 a2, .int .i64 a3] 73).box (Zz 8 (by omega))
    have e9 := ((Ext.refl _).alloc #[.int .i64 n, .int .i64 a0, .int .i64 a1, .int .i64 a2, .int .i64 a3] 73).box (Zz 9 (by omega))
    exact bodyPost_ret (v := .tuple #[.agg #[.int .i64 0, .int .i64 0, .int .i64 0, .int .i64 0, .int .i64 0, .int .i64 0, .int .i64 0, .int .i64 0, .int .i64 0, .int .i64 0], .bool false]) (by simp [results, Try.results53, go_sem, e0, e1, e2, e3, e4, e5, e6, e7, e8, e9]) rfl (bad_fv Hno.out (by repeat (first | with_reducible exact XW1.out | with_reducible apply Ext.alloc | with_reducible refine Ext.setCell ?_ (by show w.heap.size ≤ w.heap.size + 1; omega) _)))
  have hgood : Good xs := of_decide_eq_true hg
  obtain ⟨en, e0, e1, e2, e3⟩ := HX.out hgood
  have hx4 := hgood.1
  by_cases hl : ss.length = xs.length
  · by_cases ho : 0 ≤ off ∧ off ≤ 4096
    · exact absurd ⟨hgood, hl, ho⟩ hbad
    · have Hno : Hid ((dcValidV xs ss off) = false) := decide_eq_false (fun q => ho q.2.2.1)
      have hln : (ss.length : Int) = n := by omega
      have hor : off < 0 ∨ (¬ off < 0 ∧ 4096 < off) := by omega
      clear en e0 e1 e2 e3 HX hgood hl ho
      rcases hor with o1 | ⟨o1, o2⟩
      all_goals
        go_wp2
        have Zz := (zs (zs (zs (zs (zs (zs (zs (zs (zs (zs Hr.out 0) 1) 2) 3) 4) 5) 6) 7) 8) 9)
        have e0 := ((Ext.refl _).alloc #[.int .i64 n, .int .i64 a0, .int .i64 a1, .int .i64 a2, .int .i64 a3] 73).box (Zz 0 (by omega))
        have e1 := ((Ext.refl _).alloc #[.int .i64 n, .int .i64 a0, .int .i64 a1, .int .i64 a2, .int .i64 a3] 73).box (Zz 1 (by omega))
        have e2 := ((Ext.refl _).alloc #[.int .i64 n, .int .i64 a0, .int .i64 a1, .int .i64 a2, .int .i64 a3] 73).box (Zz 2 (by omega))
        have e3 := ((Ext.refl _).alloc #[.int .i64 n, .int .i64 a0, .int .i64 a1, .int .i64 a2, .int .i64 a3] 73).box (Zz 3 (by omega))
        have e4 := ((Ext.refl _).alloc #[.int .i64 n, .int .i64 a0, .int .i64 a1, .int .i64 a2, .int .i64 a3] 73).box (Zz 4 (by omega))
        have e5 := ((Ext.refl _).alloc #[.int .i64 n, .int .i64 a0, .int .i64 a1, .int .i64 a2, .int .i64 a3] 73).box (Zz 5 (by omega))
        have e6 := ((Ext.refl _).alloc #[.int .i64 n, .int .i64 a0, .int .i64 a1, .int .i64 a2, .int .i64 a3] 73).box (Zz 6 (by omega))
        have e7 := ((Ext.refl _).alloc #[.int .i64 n, .int .i64 a0, .int .i64 a1, .int .i64 a2, .int .i64 a3] 73).box (Zz 7 (by omega))
        have e8 := ((Ext.refl _).alloc #[.int .i64 n, .int .i64 a0, .int .i64 a1, .int .i64 a2, .int .i64 a3] 73).box (Zz 8 (by omega))
        have e9 := ((Ext.refl _).alloc #[.int .i64 n, .int .i64 a0, .int .i64 a1, .int .i64 a2, .int .i64 a3] 73).box (Zz 9 (by omega))
        exact bodyPost_ret (v := .tuple #[.agg #[.int .i64 0, .int .i64 0, .int .i64 0, .int .i64 0, .int .i64 0, .int .i64 0, .int .i64 0, .int .i64 0, .int .i64 0, .int .i64 0], .bool false]) (by simp [results, Try.results53, go_sem, e0, e1, e2, e3, e4, e5, e6, e7, e8, e9]) rfl (bad_fv Hno.out (by repeat (first | with_reducible exact XW1.out | with_reducible apply Ext.alloc | with_reducible refine Ext.setCell ?_ (by show w.heap.size ≤ w.heap.size + 1; omega) _)))
  · have Hno : Hid ((dcValidV xs ss off) = false) := decide_eq_false (fun q => hl q.2.1)
    have hln : ¬ (ss.length : Int) = n := by omega
    clear en e0 e1 e2 e3 HX hgood hl
    go_wp2
    have Zz := (zs (zs (zs (zs (zs (zs (zs (zs (zs (zs Hr.out 0) 1) 2) 3) 4) 5) 6) 7) 8) 9)
    have e0 := ((Ext.refl _).alloc #[.int .i64 n, .int .i64 a0, .int .i64 a1, .int .i64 a2, .int .i64 a3] 73).box (Zz 0 (by omega))
    have e1 := ((Ext.refl _).alloc #[.int .i64 n, .int .i64 a0, .int .i64 a1, .int .i64 a2, .int .i64 a3] 73).box (Zz 1 (by omega))
    have e2 := ((Ext.refl _).alloc #[.int .i64 n, .int .i64 a0, .int .i64 a1, .int .i64 a2, .int .i64 a3] 73).box (Zz 2 (by omega))
    have e3 := ((Ext.refl _).alloc #[.int .i64 n, .int .i64 a0, .int .i64 a1, .int .i64 a2, .int .i64 a3] 73).box (Zz 3 (by omega))
    have e4 := ((Ext.refl _).alloc #[.int .i64 n, .int .i64 a0, .int .i64 a1, .int .i64 a2, .int .i64 a3] 73).box (Zz 4 (by omega))
    have e5 := ((Ext.refl _).alloc #[.int .i64 n, .int .i64 a0, .int .i64 a1, .int .i64 a2, .int .i64 a3] 73).box (Zz 5 (by omega))
    have e6 := ((Ext.refl _).alloc #[.int .i64 n, .int .i64 a0, .int .i64 a1, .int .i64 a2, .int .i64 a3] 73).box (Zz 6 (by omega))
    have e7 := ((Ext.refl _).alloc #[.int .i64 n, .int .i64 a0, .int .i64 a1, .int .i64 a2, .int .i64 a3] 73).box (Zz 7 (by omega))
    have e8 := ((Ext.refl _).alloc #[.int .i64 n, .int .i64 a0, .int .i64 a1, .int .i64 a2, .int .i64 a3] 73).box (Zz 8 (by omega))
    have e9 := ((Ext.refl _).alloc #[.int .i64 n, .int .i64 a0, .int .i64 a1, .int .i64 a2, .int .i64 a3] 73).box (Zz 9 (by omega))
    exact bodyPost_ret (v := .tuple #[.agg #[.int .i64 0, .int .i64 0, .int .i64 0, .int .i64 0, .int .i64 0, .int .i64 0, .int .i64 0, .int .i64 0, .int .i64 0, .int .i64 0], .bool false]) (by simp [results, Try.results53, go_sem, e0, e1, e2, e3, e4, e5, e6, e7, e8, e9]) rfl (bad_fv Hno.out (by repeat (first | with_reducible exact XW1.out | with_reducible apply Ext.alloc | with_reducible refine Ext.setCell ?_ (by show w.heap.size ≤ w.heap.size + 1; omega) _)))
end Go.Proofs.Ytbkdfhlbjaiahaa
namespace Go.Proofs.Ytbkdfhlbjaiahaa
open Go.ChangeShapes Go.RowKit
set_option linter.unusedSimpArgs false
set_option linter.unusedVariables false

theorem far1 {W : World} {R B i j : Nat} {v u : Value} (hne : R ≠ B) (h : W.cell? ⟨B, j, none⟩ = some u) : (W.setCell ⟨R, i, none⟩ v).cell? ⟨B, j, none⟩ = some u := by
  rw [World.cell?_setCell_other _ _ _ _ (by intro h; simp only [Addr.mk.injEq] at h; omega)]; exact h

theorem far10 {W : World} {R B j : Nat} {v0 v1 v2 v3 v4 v5 v6 v7 v8 v9 u : Value} (hne : R ≠ B) (h : W.cell? ⟨B, j, none⟩ = some u) :
    ((((((((((W.setCell ⟨R, 0, none⟩ v0).setCell ⟨R, 1, none⟩ v1).setCell ⟨R, 2, none⟩ v2).setCell ⟨R, 3, none⟩ v3).setCell ⟨R, 4, none⟩ v4).setCell ⟨R, 5, none⟩ v5).setCell ⟨R, 6, none⟩ v6).setCell ⟨R, 7, none⟩ v7).setCell ⟨R, 8, none⟩ v8).setCell ⟨R, 9, none⟩ v9).cell? ⟨B, j, none⟩ = some u :=
  far1 hne (far1 hne (far1 hne (far1 hne (far1 hne (far1 hne (far1 hne (far1 hne (far1 hne (far1 hne h)))))))))

theorem zt {W : World} {R : Nat} {f : Nat → Value} (h : ∀ j, j < 10 → W.cell? ⟨R, j, none⟩ = some (f j)) (i : Nat) (v : Value) : ∀ j, j < 10 → (W.setCell ⟨R, i, none⟩ v).cell? ⟨R, j, none⟩ = some (if i = j then v else f j) := fun j hj => by
  by_cases e : i = j
  · subst e; rw [if_pos rfl]; exact World.cell?_setCell_same _ _ _ (h i hj)
  · rw [if_neg e, World.cell?_setCell_other _ _ _ _ (by intro h; simp only [Addr.mk.injEq] at h; omega)]; exact h j hj

set_option maxRecDepth 100000 in
set_option maxHeartbeats 16000000 in
theorem fixView_good {w : World} {vS vT : Value} {xs ss : List Int} (hS : Ints w vS xs) (hT : Ints w vT ss) (off : Int) (lx : xs.length ≤ 1048576) (ls : ss.length ≤ 1048576) (hgood : Good xs) (hl : ss.length = xs.length) (ho : 0 ≤ off ∧ off ≤ 4096) :
    Calls Try.prog 53 #[.agg #[vS, vT, .int .i64 off]] w fun e w' => FixVOk w xs ss off e w' := by
  have Hl := hide hl
  have Hgood := hide hgood
  clear hl hgood
  obtain ⟨sa, cap, rfl, rS⟩ := hS
  obtain ⟨ta, dap, rfl, rT⟩ := hT
  have x0 : Ext w ((w.alloc (.cells #[.slice sa xs.length cap, .slice ta ss.length dap, .int .i64 off] 40)).alloc (.cells #[.int .i64 0, .int .i64 0, .int .i64 0, .int .i64 0, .int .i64 0, .int .i64 0, .int .i64 0, .int .i64 0, .int .i64 0, .int .i64 0] 75)) := ((Ext.refl w).alloc _ _).alloc _ _
  have y0 : Ext (w.alloc (.cells #[.slice sa xs.length cap, .slice ta ss.length dap, .int .i64 off] 40)) ((w.alloc (.cells #[.slice sa xs.length cap, .slice ta ss.length dap, .int .i64 off] 40)).alloc (.cells #[.int .i64 0, .int .i64 0, .int .i64 0, .int .i64 0, .int .i64 0, .int .i64 0, .int .i64 0, .int .i64 0, .int .i64 0, .int .i64 0] 75)) := (Ext.refl _).alloc _ _
  have HS : Hid (Ints ((w.alloc (.cells #[.slice sa xs.length cap, .slice ta ss.length dap, .int .i64 off] 40)).alloc (.cells #[.int .i64 0, .int .i64 0, .int .i64 0, .int .i64 0, .int .i64 0, .int .i64 0, .int .i64 0, .int .i64 0, .int .i64 0, .int .i64 0] 75)) (.slice sa xs.length cap) xs) := Ints.ext ⟨sa, cap, rfl, rS⟩ x0
  have HT : Hid (Ints ((w.alloc (.cells #[.slice sa xs.length cap, .slice ta ss.length dap, .int .i64 off] 40)).alloc (.cells #[.int .i64 0, .int .i64 0, .int .i64 0, .int .i64 0, .int .i64 0, .int .i64 0, .int .i64 0, .int .i64 0, .int .i64 0, .int .i64 0] 75)) (.slice ta ss.length dap) ss) := Ints.ext ⟨ta, dap, rfl, rT⟩ x0
  have n1 := fun j => new_cell w #[.slice sa xs.length cap, .slice ta ss.length dap, .int .i64 off] 40 w.heap.size rfl j
  have n2 := fun j => new_cell (w.alloc (.cells #[.slice sa xs.length cap, .slice ta ss.length dap, .int .i64 off] 40)) #[.int .i64 0, .int .i64 0, .int .i64 0, .int .i64 0, .int .i64 0, .int .i64 0, .int .i64 0, .int .i64 0, .int .i64 0, .int .i64 0] 75 (w.heap.size + 1) (by simp) j
  have k0 := y0.box (n1 0)
  have k1 := y0.box (n1 1)
  have k2 := y0.box (n1 2)
  have z0 : ((w.alloc (.cells #[.slice sa xs.length cap, .slice ta ss.length dap, .int .i64 off] 40)).alloc (.cells #[.int .i64 0, .int .i64 0, .int .i64 0, .int .i64 0, .int .i64 0, .int .i64 0, .int .i64 0, .int .i64 0, .int .i64 0, .int .i64 0] 75)).cell? ⟨w.heap.size + 1, 0, none⟩ = some (.int .i64 0) := n2 0
  have z1 : ((w.alloc (.cells #[.slice sa xs.length cap, .slice ta ss.length dap, .int .i64 off] 40)).alloc (.cells #[.int .i64 0, .int .i64 0, .int .i64 0, .int .i64 0, .int .i64 0, .int .i64 0, .int .i64 0, .int .i64 0, .int .i64 0, .int .i64 0] 75)).cell? ⟨w.heap.size + 1, 1, none⟩ = some (.int .i64 0) := n2 1
  have z2 : ((w.alloc (.cells #[.slice sa xs.length cap, .slice ta ss.length dap, .int .i64 off] 40)).alloc (.cells #[.int .i64 0, .int .i64 0, .int .i64 0, .int .i64 0, .int .i64 0, .int .i64 0, .int .i64 0, .int .i64 0, .int .i64 0, .int .i64 0] 75)).cell? ⟨w.heap.size + 1, 2, none⟩ = some (.int .i64 0) := n2 2
  have z3 : ((w.alloc (.cells #[.slice sa xs.length cap, .slice ta ss.length dap, .int .i64 off] 40)).alloc (.cells #[.int .i64 0, .int .i64 0, .int .i64 0, .int .i64 0, .int .i64 0, .int .i64 0, .int .i64 0, .int .i64 0, .int .i64 0, .int .i64 0] 75)).cell? ⟨w.heap.size + 1, 3, none⟩ = some (.int .i64 0) := n2 3
  have z4 : ((w.alloc (.cells #[.slice sa xs.length cap, .slice ta ss.length dap, .int .i64 off] 40)).alloc (.cells #[.int .i64 0, .int .i64 0, .int .i64 0, .int .i64 0, .int .i64 0, .int .i64 0, .int .i64 0, .int .i64 0, .int .i64 0, .int .i64 0] 75)).cell? ⟨w.heap.size + 1, 4, none⟩ = some (.int .i64 0) := n2 4
  have z5 : ((w.alloc (.cells #[.slice sa xs.length cap, .slice ta ss.length dap, .int .i64 off] 40)).alloc (.cells #[.int .i64 0, .int .i64 0, .int .i64 0, .int .i64 0, .int .i64 0, .int .i64 0, .int .i64 0, .int .i64 0, .int .i64 0, .int .i64 0] 75)).cell? ⟨w.heap.size + 1, 5, none⟩ = some (.int .i64 0) := n2 5
  have z6 : ((w.alloc (.cells #[.slice sa xs.length cap, .slice ta ss.length dap, .int .i64 off] 40)).alloc (.cells #[.int .i64 0, .int .i64 0, .int .i64 0, .int .i64 0, .int .i64 0, .int .i64 0, .int .i64 0, .int .i64 0, .int .i64 0, .int .i64 0] 75)).cell? ⟨w.heap.size + 1, 6, none⟩ = some (.int .i64 0) := n2 6
  have z7 : ((w.alloc (.cells #[.slice sa xs.length cap, .slice ta ss.length dap, .int .i64 off] 40)).alloc (.cells #[.int .i64 0, .int .i64 0, .int .i64 0, .int .i64 0, .int .i64 0, .int .i64 0, .int .i64 0, .int .i64 0, .int .i64 0, .int .i64 0] 75)).cell? ⟨w.heap.size + 1, 7, none⟩ = some (.int .i64 0) := n2 7
  have z8 : ((w.alloc (.cells #[.slice sa xs.length cap, .slice ta ss.length dap, .int .i64 off] 40)).alloc (.cells #[.int .i64 0, .int .i64 0, .int .i64 0, .int .i64 0, .int .i64 0, .int .i64 0, .int .i64 0, .int .i64 0, .int .i64 0, .int .i64 0] 75)).cell? ⟨w.heap.size + 1, 8, none⟩ = some (.int .i64 0) := n2 8
  have z9 : ((w.alloc (.cells #[.slice sa xs.length cap, .slice ta ss.length dap, .int .i64 off] 40)).alloc (.cells #[.int .i64 0, .int .i64 0, .int .i64 0, .int .i64 0, .int .i64 0, .int .i64 0, .int .i64 0, .int .i64 0, .int .i64 0, .int .i64 0] 75)).cell? ⟨w.heap.size + 1, 9, none⟩ = some (.int .i64 0) := n2 9
  have HrT := hide rT
  have X0 := hide x0
  clear n1 n2 x0 y0 rS rT
  go_enter Try.func53, Try.ntmps53
  go_wp2_with fail
  refine (fixShape_any HS.out (by omega)).mono ?_
  rintro e w1 ⟨n, a0, a1, a2, a3, rfl, hX, x1⟩
  have y1 : Ext w1 (w1.alloc (.cells #[.int .i64 n, .int .i64 a0, .int .i64 a1, .int .i64 a2, .int .i64 a3] 73)) := (Ext.refl w1).alloc _ _
  have n3 := fun j => new_cell w1 #[.int .i64 n, .int .i64 a0, .int .i64 a1, .int .i64 a2, .int .i64 a3] 73 w1.heap.size rfl j
  have s0 : (w1.alloc (.cells #[.int .i64 n, .int .i64 a0, .int .i64 a1, .int .i64 a2, .int .i64 a3] 73)).cell? ⟨w1.heap.size, 0, none⟩ = some (.int .i64 n) := n3 0
  have s1 : (w1.alloc (.cells #[.int .i64 n, .int .i64 a0, .int .i64 a1, .int .i64 a2, .int .i64 a3] 73)).cell? ⟨w1.heap.size, 1, none⟩ = some (.int .i64 a0) := n3 1
  have s2 : (w1.alloc (.cells #[.int .i64 n, .int .i64 a0, .int .i64 a1, .int .i64 a2, .int .i64 a3] 73)).cell? ⟨w1.heap.size, 2, none⟩ = some (.int .i64 a1) := n3 2
  have s3 : (w1.alloc (.cells #[.int .i64 n, .int .i64 a0, .int .i64 a1, .int .i64 a2, .int .i64 a3] 73)).cell? ⟨w1.heap.size, 3, none⟩ = some (.int .i64 a2) := n3 3
  have s4 : (w1.alloc (.cells #[.int .i64 n, .int .i64 a0, .int .i64 a1, .int .i64 a2, .int .i64 a3] 73)).cell? ⟨w1.heap.size, 4, none⟩ = some (.int .i64 a3) := n3 4
  have v0 := x1.box k0
  have vv0 := y1.box v0
  have v1 := x1.box k1
  have vv1 := y1.box v1
  have v2 := x1.box k2
  have vv2 := y1.box v2
  have r0 := x1.box z0
  have r1 := x1.box z1
  have r2 := x1.box z2
  have r3 := x1.box z3
  have r4 := x1.box z4
  have r5 := x1.box z5
  have r6 := x1.box z6
  have r7 := x1.box z7
  have r8 := x1.box z8
  have r9 := x1.box z9
  have X1 := hide ((X0.out.trans x1).trans y1)
  have hB1 : w.heap.size + 1 < w1.heap.size := cell_lt (x1.box z0)
  have HX := hide hX
  have Hr : Hid (∀ j, j < 10 → w1.cell? ⟨w.heap.size + 1, j, none⟩ = some (.int .i64 0)) := fun j hj => by
    obtain rfl | rfl | rfl | rfl | rfl | rfl | rfl | rfl | rfl | rfl : j = 0 ∨ j = 1 ∨ j = 2 ∨ j = 3 ∨ j = 4 ∨ j = 5 ∨ j = 6 ∨ j = 7 ∨ j = 8 ∨ j = 9 := by omega
    all_goals assumption
  have XW1 := hide (X0.out.trans x1)
  have rf := fun o => (X0.out.trans x1).unfrozen (b := w.heap.size + 1) (by omega) o
  clear hX n3 k0 k1 k2 y1 x1 HS HT z0 z1 z2 z3 z4 z5 z6 z7 z8 z9
  have hg : goodB xs = true := decide_eq_true Hgood.out
  obtain ⟨en, e0, e1, e2, e3⟩ := HX.out Hgood.out
  have hx4 := Hgood.out.1
  have e12 : Ext (w1.alloc (.cells #[.int .i64 n, .int .i64 a0, .int .i64 a1, .int .i64 a2, .int .i64 a3] 73)) ((w1.alloc (.cells #[.int .i64 n, .int .i64 a0, .int .i64 a1, .int .i64 a2, .int .i64 a3] 73)).alloc (.cells #[.int .i64 n, .int .i64 a0, .int .i64 a1, .int .i64 a2, .int .i64 a3, .int .i64 0, .int .i64 0, .int .i64 0, .int .i64 0, .int .i64 off] 75)) := (Ext.refl _).alloc _ _
  have nf := fun j => new_cell (w1.alloc (.cells #[.int .i64 n, .int .i64 a0, .int .i64 a1, .int .i64 a2, .int .i64 a3] 73)) #[.int .i64 n, .int .i64 a0, .int .i64 a1, .int .i64 a2, .int .i64 a3, .int .i64 0, .int .i64 0, .int .i64 0, .int .i64 0, .int .i64 off] 75 (w1.heap.size + 1) (by simp) j
  have S0 : FVS w ((w1.alloc (.cells #[.int .i64 n, .int .i64 a0, .int .i64 a1, .int .i64 a2, .int .i64 a3] 73)).alloc (.cells #[.int .i64 n, .int .i64 a0, .int .i64 a1, .int .i64 a2, .int .i64 a3, .int .i64 0, .int .i64 0, .int .i64 0, .int .i64 0, .int .i64 off] 75)) (w1.heap.size + 1) (.slice sa xs.length cap) (.slice ta ss.length dap) xs ss off 0 := by
    refine ⟨e12.box vv1, fun j hj => e12.box (((Ext.refl w1).alloc _ _).box (Hr.out j hj)), ?_, fun j hj => ?_, fun j hj => ?_, nf 9, X1.out.trans e12⟩
    · rw [← en]; exact nf 0
    · obtain rfl | rfl | rfl | rfl : j = 0 ∨ j = 1 ∨ j = 2 ∨ j = 3 := by omega
      · rw [← e0]; exact nf 1
      · rw [← e1]; exact nf 2
      · rw [← e2]; exact nf 3
      · rw [← e3]; exact nf 4
    · rw [if_neg (by omega)]
      obtain rfl | rfl | rfl | rfl : j = 0 ∨ j = 1 ∨ j = 2 ∨ j = 3 := by omega
      · exact nf 5
      · exact nf 6
      · exact nf 7
      · exact nf 8
  have HS0 := hide S0
  have t1 := S0.v1
  have hln : (ss.length : Int) = n := by have := Hl.out; omega
  have o1 : ¬ off < 0 := by omega
  have o2 : ¬ 4096 < off := by omega
  have Hx4 := hide hx4
  have hB2 := hide hB1
  clear S0 nf e12 HX en e0 e1 e2 e3 hx4
  go_wp2
  try simp only [show decide (off < 0) = false from decide_eq_false o1, show decide (4096 < off) = false from decide_eq_false o2]
  generalize hB : w1.heap.size + 1 = B at HS0 ⊢
  have HBB : Hid (w.heap.size + 1 < B) := by have := hB2.out; show w.heap.size + 1 < B; omega
  clear hB t1 hB1
  go_loopw [43] (fun i wr => ∃ k : Nat, i = .int .i64 k ∧ k ≤ ss.length ∧ Hid (InS ss k) ∧ FVS w wr B (.slice sa xs.length cap) (.slice ta ss.length dap) xs ss off k) (fun i _ => ss.length - (intOf i).toNat)
  case atStart => exact ⟨0, rfl, by omega, fun j hj => absurd hj (Nat.not_lt_zero _), HS0.out⟩
  case round =>
    obtain ⟨k, rfl, hk, hin, hS⟩ := hrel
    have HS := hide hS
    clear hS
    have rr0 := HS.out.r 0 (by omega)
    have rr1 := HS.out.r 1 (by omega)
    have rr2 := HS.out.r 2 (by omega)
    have rr3 := HS.out.r 3 (by omega)
    have rr4 := HS.out.r 4 (by omega)
    have rr5 := HS.out.r 5 (by omega)
    have rr6 := HS.out.r 6 (by omega)
    have rr7 := HS.out.r 7 (by omega)
    have rr8 := HS.out.r 8 (by omega)
    have rr9 := HS.out.r 9 (by omega)
    have rf2 := fun o => HS.out.ex.unfrozen (b := w.heap.size + 1) (by omega) o
    have sf := fun o => HS.out.ex.unfrozen (b := B) (by have := HBB.out; omega) o
    by_cases hlt : k < ss.length
    · rcases HrT.out with h0 | ⟨b, o, rfl, hrow⟩
      · rw [h0] at hlt; simp at hlt
      have q0 := HS.out.ex.box (hrow k hlt)
      have hk4 : k < 4 := by have := Hl.out; have := Hx4.out; omega
      have hk0 : (0 : Int) ≤ (k : Int) := Int.natCast_nonneg _
      have hk1 : (k : Int) < (ss.length : Int) := by omega
      have hk2 : (k : Int) < n := by omega
      have hk44 : (k : Int) < 4 := by omega
      by_cases hr : -4096 ≤ ss.getD k 0 ∧ ss.getD k 0 ≤ 4096
      · have hin2 := hide (hin.out.step hr)
        have St := HS.out.step hk4 HBB.out
        have sk := HS.out.fs k hk4
        generalize ss.getD k 0 = x at q0 hr St
        have HSt := hide St
        clear St hrow
        have hlo : ¬ x < -4096 := by omega
        have hhi : ¬ 4096 < x := by omega
        go_wp2
        go_roundw
        · exact ⟨k + 1, by go_num, by omega, hin2, HSt.out⟩
        · simp [intOf]; omega
      · have Hno : Hid ((dcValidV xs ss off) = false) := decide_eq_false (fun q => hr (q.2.2.2.1 k hlt))
        generalize ss.getD k 0 = x at q0 hr
        clear hrow
        have hor : x < -4096 ∨ (¬ x < -4096 ∧ 4096 < x) := by omega
        rcases hor with hlo | ⟨hlo, hhi⟩
        all_goals
          go_wp2
          have Zz := (zs (zs (zs (zs (zs (zs (zs (zs (zs (zs HS.out.r 0) 1) 2) 3) 4) 5) 6) 7) 8) 9)
          have e0 := Zz 0 (by omega)
          have e1 := Zz 1 (by omega)
          have e2 := Zz 2 (by omega)
          have e3 := Zz 3 (by omega)
          have e4 := Zz 4 (by omega)
          have e5 := Zz 5 (by omega)
          have e6 := Zz 6 (by omega)
          have e7 := Zz 7 (by omega)
          have e8 := Zz 8 (by omega)
          have e9 := Zz 9 (by omega)
          exact bodyPost_ret (v := .tuple #[.agg #[.int .i64 0, .int .i64 0, .int .i64 0, .int .i64 0, .int .i64 0, .int .i64 0, .int .i64 0, .int .i64 0, .int .i64 0, .int .i64 0], .bool false]) (by simp [results, Try.results53, go_sem, e0, e1, e2, e3, e4, e5, e6, e7, e8, e9]) rfl (bad_fv Hno.out (by repeat (first | with_reducible exact HS.out.ex | with_reducible refine Ext.setCell ?_ (by show w.heap.size ≤ w.heap.size + 1; omega) _)))
    · have hkk : k = ss.length := by omega
      subst hkk
      have hsj : ∀ j, j < 4 → wr.cell? ⟨B, 5 + j, none⟩ = some (.int .i64 (ss.getD j 0)) := fun j hj => by
        rw [HS.out.fs j hj]
        by_cases e : j < ss.length
        · rw [if_pos e]
        · rw [if_neg e, List.getD_eq_getElem?_getD, List.getElem?_eq_none (by omega)]; rfl
      have g0 := HS.out.f0
      have g1 : wr.cell? ⟨B, 1, none⟩ = _ := HS.out.fl 0 (by omega)
      have g2 : wr.cell? ⟨B, 2, none⟩ = _ := HS.out.fl 1 (by omega)
      have g3 : wr.cell? ⟨B, 3, none⟩ = _ := HS.out.fl 2 (by omega)
      have g4 : wr.cell? ⟨B, 4, none⟩ = _ := HS.out.fl 3 (by omega)
      have g5 : wr.cell? ⟨B, 5, none⟩ = _ := hsj 0 (by omega)
      have g6 : wr.cell? ⟨B, 6, none⟩ = _ := hsj 1 (by omega)
      have g7 : wr.cell? ⟨B, 7, none⟩ = _ := hsj 2 (by omega)
      have g8 : wr.cell? ⟨B, 8, none⟩ = _ := hsj 3 (by omega)
      have g9 := HS.out.f9
      clear hsj
      have hval : Hid ((dcValidV xs ss off) = inB xs ss off) := decide_eq_decide.2 ⟨fun q => q.2.2.2.2, fun q => ⟨Hgood.out, Hl.out, ho, hin.out, q⟩⟩
      have hw := hide (fun W => within_any W xs ss off Hgood.out.1 Hgood.out.2.1 Hl.out hin.out ho)
      unfold vw at hw
      have HE := hide HS.out.ex
      generalize hc0 : xs.getD 0 0 = c0 at g1 hw
      have Hc0 := hide hc0
      clear hc0
      generalize hc1 : xs.getD 1 0 = c1 at g2 hw
      have Hc1 := hide hc1
      clear hc1
      generalize hc2 : xs.getD 2 0 = c2 at g3 hw
      have Hc2 := hide hc2
      clear hc2
      generalize hc3 : xs.getD 3 0 = c3 at g4 hw
      have Hc3 := hide hc3
      clear hc3
      generalize hd0 : ss.getD 0 0 = d0 at g5 hw
      have Hd0 := hide hd0
      clear hd0
      generalize hd1 : ss.getD 1 0 = d1 at g6 hw
      have Hd1 := hide hd1
      clear hd1
      generalize hd2 : ss.getD 2 0 = d2 at g7 hw
      have Hd2 := hide hd2
      clear hd2
      generalize hd3 : ss.getD 3 0 = d3 at g8 hw
      have Hd3 := hide hd3
      clear hd3
      generalize inB xs ss off = ib at hval hw
      go_wp2_with fail
      have D0 : Ext wr wr.drew := (Ext.refl wr).drew
      have dr0 := D0.box rr0
      have dr1 := D0.box rr1
      have dr2 := D0.box rr2
      have dr3 := D0.box rr3
      have dr4 := D0.box rr4
      have dr5 := D0.box rr5
      have dr6 := D0.box rr6
      have dr7 := D0.box rr7
      have dr8 := D0.box rr8
      have dr9 := D0.box rr9
      have dg0 := D0.box g0
      have dg1 := D0.box g1
      have dg2 := D0.box g2
      have dg3 := D0.box g3
      have dg4 := D0.box g4
      have dg5 := D0.box g5
      have dg6 := D0.box g6
      have dg7 := D0.box g7
      have dg8 := D0.box g8
      have dg9 := D0.box g9
      have HED := hide (HE.out.trans D0)
      have hne : w.heap.size + 1 ≠ B := by have := HBB.out; omega
      have Hne := hide hne
      have SA : Hid ((fun w' => w'.cell? ⟨B, 0, none⟩ = some (.int .i64 (xs.length : Int)) ∧ w'.cell? ⟨B, 1, none⟩ = some (.int .i64 c0) ∧ w'.cell? ⟨B, 2, none⟩ = some (.int .i64 c1) ∧ w'.cell? ⟨B, 3, none⟩ = some (.int .i64 c2) ∧ w'.cell? ⟨B, 4, none⟩ = some (.int .i64 c3) ∧ w'.cell? ⟨B, 5, none⟩ = some (.int .i64 d0) ∧ w'.cell? ⟨B, 6, none⟩ = some (.int .i64 d1) ∧ w'.cell? ⟨B, 7, none⟩ = some (.int .i64 d2) ∧ w'.cell? ⟨B, 8, none⟩ = some (.int .i64 d3) ∧ w'.cell? ⟨B, 9, none⟩ = some (.int .i64 off)) wr.drew) := ⟨dg0, dg1, dg2, dg3, dg4, dg5, dg6, dg7, dg8, dg9⟩
      clear D0 hne
      go_region_held3 (fun w' => w'.cell? ⟨B, 0, none⟩ = some (.int .i64 (xs.length : Int)) ∧ w'.cell? ⟨B, 1, none⟩ = some (.int .i64 c0) ∧ w'.cell? ⟨B, 2, none⟩ = some (.int .i64 c1) ∧ w'.cell? ⟨B, 3, none⟩ = some (.int .i64 c2) ∧ w'.cell? ⟨B, 4, none⟩ = some (.int .i64 c3) ∧ w'.cell? ⟨B, 5, none⟩ = some (.int .i64 d0) ∧ w'.cell? ⟨B, 6, none⟩ = some (.int .i64 d1) ∧ w'.cell? ⟨B, 7, none⟩ = some (.int .i64 d2) ∧ w'.cell? ⟨B, 8, none⟩ = some (.int .i64 d3) ∧ w'.cell? ⟨B, 9, none⟩ = some (.int .i64 off)) (first | with_reducible exact SA.out | with_reducible exact SB'.out | with_reducible exact SC'.out) (first | (go_at_call 54; refine (hw.out _).mono ?_; rintro e w2 ⟨rfl, x2⟩; have y0 := x2.box dr0; have y1 := x2.box dr1; have y2 := x2.box dr2; have y3 := x2.box dr3; have y4 := x2.box dr4; have y5 := x2.box dr5; have y6 := x2.box dr6; have y7 := x2.box dr7; have y8 := x2.box dr8; have y9 := x2.box dr9; have z0 := x2.box dg0; have z1 := x2.box dg1; have z2 := x2.box dg2; have z3 := x2.box dg3; have z4 := x2.box dg4; have z5 := x2.box dg5; have z6 := x2.box dg6; have z7 := x2.box dg7; have z8 := x2.box dg8; have z9 := x2.box dg9; have yf : ∀ o, w2.frozen? ⟨w.heap.size + 1, o, none⟩ = false := fun o => (x2.fz _).trans (by first | exact rf2 o | (simp [rf2]; done)); have HX2 := hide (HED.out.trans x2); clear x2; have SB' : Hid ((fun w' => w'.cell? ⟨B, 0, none⟩ = some (.int .i64 (xs.length : Int)) ∧ w'.cell? ⟨B, 1, none⟩ = some (.int .i64 c0) ∧ w'.cell? ⟨B, 2, none⟩ = some (.int .i64 c1) ∧ w'.cell? ⟨B, 3, none⟩ = some (.int .i64 c2) ∧ w'.cell? ⟨B, 4, none⟩ = some (.int .i64 c3) ∧ w'.cell? ⟨B, 5, none⟩ = some (.int .i64 d0) ∧ w'.cell? ⟨B, 6, none⟩ = some (.int .i64 d1) ∧ w'.cell? ⟨B, 7, none⟩ = some (.int .i64 d2) ∧ w'.cell? ⟨B, 8, none⟩ = some (.int .i64 d3) ∧ w'.cell? ⟨B, 9, none⟩ = some (.int .i64 off)) w2) := ⟨z0, z1, z2, z3, z4, z5, z6, z7, z8, z9⟩; have SC' : Hid ((fun w' => w'.cell? ⟨B, 0, none⟩ = some (.int .i64 (xs.length : Int)) ∧ w'.cell? ⟨B, 1, none⟩ = some (.int .i64 c0) ∧ w'.cell? ⟨B, 2, none⟩ = some (.int .i64 c1) ∧ w'.cell? ⟨B, 3, none⟩ = some (.int .i64 c2) ∧ w'.cell? ⟨B, 4, none⟩ = some (.int .i64 c3) ∧ w'.cell? ⟨B, 5, none⟩ = some (.int .i64 d0) ∧ w'.cell? ⟨B, 6, none⟩ = some (.int .i64 d1) ∧ w'.cell? ⟨B, 7, none⟩ = some (.int .i64 d2) ∧ w'.cell? ⟨B, 8, none⟩ = some (.int .i64 d3) ∧ w'.cell? ⟨B, 9, none⟩ = some (.int .i64 off)) ((((((((((w2.setCell ⟨w.heap.size + 1, 0, none⟩ (.int .i64 (xs.length : Int))).setCell ⟨w.heap.size + 1, 1, none⟩ (.int .i64 c0)).setCell ⟨w.heap.size + 1, 2, none⟩ (.int .i64 c1)).setCell ⟨w.heap.size + 1, 3, none⟩ (.int .i64 c2)).setCell ⟨w.heap.size + 1, 4, none⟩ (.int .i64 c3)).setCell ⟨w.heap.size + 1, 5, none⟩ (.int .i64 d0)).setCell ⟨w.heap.size + 1, 6, none⟩ (.int .i64 d1)).setCell ⟨w.heap.size + 1, 7, none⟩ (.int .i64 d2)).setCell ⟨w.heap.size + 1, 8, none⟩ (.int .i64 d3)).setCell ⟨w.heap.size + 1, 9, none⟩ (.int .i64 off))) := ⟨far10 Hne.out z0, far10 Hne.out z1, far10 Hne.out z2, far10 Hne.out z3, far10 Hne.out z4, far10 Hne.out z5, far10 Hne.out z6, far10 Hne.out z7, far10 Hne.out z8, far10 Hne.out z9⟩))
      all_goals go_wp2
      all_goals
        have hy : ∀ j, j < 10 → w2.cell? ⟨w.heap.size + 1, j, none⟩ = some ((fun _ => (.int .i64 0 : Value)) j) := fun j hj => by
          obtain rfl | rfl | rfl | rfl | rfl | rfl | rfl | rfl | rfl | rfl : j = 0 ∨ j = 1 ∨ j = 2 ∨ j = 3 ∨ j = 4 ∨ j = 5 ∨ j = 6 ∨ j = 7 ∨ j = 8 ∨ j = 9 := by omega
          all_goals assumption
        have Zz := (zt (zt (zt (zt (zt (zt (zt (zt (zt (zt hy 0 (.int .i64 (xs.length : Int))) 1 (.int .i64 c0)) 2 (.int .i64 c1)) 3 (.int .i64 c2)) 4 (.int .i64 c3)) 5 (.int .i64 d0)) 6 (.int .i64 d1)) 7 (.int .i64 d2)) 8 (.int .i64 d3)) 9 (.int .i64 off))
        have q0 : ((((((((((w2.setCell ⟨w.heap.size + 1, 0, none⟩ (.int .i64 (xs.length : Int))).setCell ⟨w.heap.size + 1, 1, none⟩ (.int .i64 c0)).setCell ⟨w.heap.size + 1, 2, none⟩ (.int .i64 c1)).setCell ⟨w.heap.size + 1, 3, none⟩ (.int .i64 c2)).setCell ⟨w.heap.size + 1, 4, none⟩ (.int .i64 c3)).setCell ⟨w.heap.size + 1, 5, none⟩ (.int .i64 d0)).setCell ⟨w.heap.size + 1, 6, none⟩ (.int .i64 d1)).setCell ⟨w.heap.size + 1, 7, none⟩ (.int .i64 d2)).setCell ⟨w.heap.size + 1, 8, none⟩ (.int .i64 d3)).setCell ⟨w.heap.size + 1, 9, none⟩ (.int .i64 off)).cell? ⟨w.heap.size + 1, 0, none⟩ = some (.int .i64 (xs.length : Int)) := (Zz 0 (by omega)).trans rfl
        have q1 : ((((((((((w2.setCell ⟨w.heap.size + 1, 0, none⟩ (.int .i64 (xs.length : Int))).setCell ⟨w.heap.size + 1, 1, none⟩ (.int .i64 c0)).setCell ⟨w.heap.size + 1, 2, none⟩ (.int .i64 c1)).setCell ⟨w.heap.size + 1, 3, none⟩ (.int .i64 c2)).setCell ⟨w.heap.size + 1, 4, none⟩ (.int .i64 c3)).setCell ⟨w.heap.size + 1, 5, none⟩ (.int .i64 d0)).setCell ⟨w.heap.size + 1, 6, none⟩ (.int .i64 d1)).setCell ⟨w.heap.size + 1, 7, none⟩ (.int .i64 d2)).setCell ⟨w.heap.size + 1, 8, none⟩ (.int .i64 d3)).setCell ⟨w.heap.size + 1, 9, none⟩ (.int .i64 off)).cell? ⟨w.heap.size + 1, 1, none⟩ = some (.int .i64 c0) := (Zz 1 (by omega)).trans rfl
        have q2 : ((((((((((w2.setCell ⟨w.heap.size + 1, 0, none⟩ (.int .i64 (xs.length : Int))).setCell ⟨w.heap.size + 1, 1, none⟩ (.int .i64 c0)).setCell ⟨w.heap.size + 1, 2, none⟩ (.int .i64 c1)).setCell ⟨w.heap.size + 1, 3, none⟩ (.int .i64 c2)).setCell ⟨w.heap.size + 1, 4, none⟩ (.int .i64 c3)).setCell ⟨w.heap.size + 1, 5, none⟩ (.int .i64 d0)).setCell ⟨w.heap.size + 1, 6, none⟩ (.int .i64 d1)).setCell ⟨w.heap.size + 1, 7, none⟩ (.int .i64 d2)).setCell ⟨w.heap.size + 1, 8, none⟩ (.int .i64 d3)).setCell ⟨w.heap.size + 1, 9, none⟩ (.int .i64 off)).cell? ⟨w.heap.size + 1, 2, none⟩ = some (.int .i64 c1) := (Zz 2 (by omega)).trans rfl
        have q3 : ((((((((((w2.setCell ⟨w.heap.size + 1, 0, none⟩ (.int .i64 (xs.length : Int))).setCell ⟨w.heap.size + 1, 1, none⟩ (.int .i64 c0)).setCell ⟨w.heap.size + 1, 2, none⟩ (.int .i64 c1)).setCell ⟨w.heap.size + 1, 3, none⟩ (.int .i64 c2)).setCell ⟨w.heap.size + 1, 4, none⟩ (.int .i64 c3)).setCell ⟨w.heap.size + 1, 5, none⟩ (.int .i64 d0)).setCell ⟨w.heap.size + 1, 6, none⟩ (.int .i64 d1)).setCell ⟨w.heap.size + 1, 7, none⟩ (.int .i64 d2)).setCell ⟨w.heap.size + 1, 8, none⟩ (.int .i64 d3)).setCell ⟨w.heap.size + 1, 9, none⟩ (.int .i64 off)).cell? ⟨w.heap.size + 1, 3, none⟩ = some (.int .i64 c2) := (Zz 3 (by omega)).trans rfl
        have q4 : ((((((((((w2.setCell ⟨w.heap.size + 1, 0, none⟩ (.int .i64 (xs.length : Int))).setCell ⟨w.heap.size + 1, 1, none⟩ (.int .i64 c0)).setCell ⟨w.heap.size + 1, 2, none⟩ (.int .i64 c1)).setCell ⟨w.heap.size + 1, 3, none⟩ (.int .i64 c2)).setCell ⟨w.heap.size + 1, 4, none⟩ (.int .i64 c3)).setCell ⟨w.heap.size + 1, 5, none⟩ (.int .i64 d0)).setCell ⟨w.heap.size + 1, 6, none⟩ (.int .i64 d1)).setCell ⟨w.heap.size + 1, 7, none⟩ (.int .i64 d2)).setCell ⟨w.heap.size + 1, 8, none⟩ (.int .i64 d3)).setCell ⟨w.heap.size + 1, 9, none⟩ (.int .i64 off)).cell? ⟨w.heap.size + 1, 4, none⟩ = some (.int .i64 c3) := (Zz 4 (by omega)).trans rfl
        have q5 : ((((((((((w2.setCell ⟨w.heap.size + 1, 0, none⟩ (.int .i64 (xs.length : Int))).setCell ⟨w.heap.size + 1, 1, none⟩ (.int .i64 c0)).setCell ⟨w.heap.size + 1, 2, none⟩ (.int .i64 c1)).setCell ⟨w.heap.size + 1, 3, none⟩ (.int .i64 c2)).setCell ⟨w.heap.size + 1, 4, none⟩ (.int .i64 c3)).setCell ⟨w.heap.size + 1, 5, none⟩ (.int .i64 d0)).setCell ⟨w.heap.size + 1, 6, none⟩ (.int .i64 d1)).setCell ⟨w.heap.size + 1, 7, none⟩ (.int .i64 d2)).setCell ⟨w.heap.size + 1, 8, none⟩ (.int .i64 d3)).setCell ⟨w.heap.size + 1, 9, none⟩ (.int .i64 off)).cell? ⟨w.heap.size + 1, 5, none⟩ = some (.int .i64 d0) := (Zz 5 (by omega)).trans rfl
        have q6 : ((((((((((w2.setCell ⟨w.heap.size + 1, 0, none⟩ (.int .i64 (xs.length : Int))).setCell ⟨w.heap.size + 1, 1, none⟩ (.int .i64 c0)).setCell ⟨w.heap.size + 1, 2, none⟩ (.int .i64 c1)).setCell ⟨w.heap.size + 1, 3, none⟩ (.int .i64 c2)).setCell ⟨w.heap.size + 1, 4, none⟩ (.int .i64 c3)).setCell ⟨w.heap.size + 1, 5, none⟩ (.int .i64 d0)).setCell ⟨w.heap.size + 1, 6, none⟩ (.int .i64 d1)).setCell ⟨w.heap.size + 1, 7, none⟩ (.int .i64 d2)).setCell ⟨w.heap.size + 1, 8, none⟩ (.int .i64 d3)).setCell ⟨w.heap.size + 1, 9, none⟩ (.int .i64 off)).cell? ⟨w.heap.size + 1, 6, none⟩ = some (.int .i64 d1) := (Zz 6 (by omega)).trans rfl
        have q7 : ((((((((((w2.setCell ⟨w.heap.size + 1, 0, none⟩ (.int .i64 (xs.length : Int))).setCell ⟨w.heap.size + 1, 1, none⟩ (.int .i64 c0)).setCell ⟨w.heap.size + 1, 2, none⟩ (.int .i64 c1)).setCell ⟨w.heap.size + 1, 3, none⟩ (.int .i64 c2)).setCell ⟨w.heap.size + 1, 4, none⟩ (.int .i64 c3)).setCell ⟨w.heap.size + 1, 5, none⟩ (.int .i64 d0)).setCell ⟨w.heap.size + 1, 6, none⟩ (.int .i64 d1)).setCell ⟨w.heap.size + 1, 7, none⟩ (.int .i64 d2)).setCell ⟨w.heap.size + 1, 8, none⟩ (.int .i64 d3)).setCell ⟨w.heap.size + 1, 9, none⟩ (.int .i64 off)).cell? ⟨w.heap.size + 1, 7, none⟩ = some (.int .i64 d2) := (Zz 7 (by omega)).trans rfl
        have q8 : ((((((((((w2.setCell ⟨w.heap.size + 1, 0, none⟩ (.int .i64 (xs.length : Int))).setCell ⟨w.heap.size + 1, 1, none⟩ (.int .i64 c0)).setCell ⟨w.heap.size + 1, 2, none⟩ (.int .i64 c1)).setCell ⟨w.heap.size + 1, 3, none⟩ (.int .i64 c2)).setCell ⟨w.heap.size + 1, 4, none⟩ (.int .i64 c3)).setCell ⟨w.heap.size + 1, 5, none⟩ (.int .i64 d0)).setCell ⟨w.heap.size + 1, 6, none⟩ (.int .i64 d1)).setCell ⟨w.heap.size + 1, 7, none⟩ (.int .i64 d2)).setCell ⟨w.heap.size + 1, 8, none⟩ (.int .i64 d3)).setCell ⟨w.heap.size + 1, 9, none⟩ (.int .i64 off)).cell? ⟨w.heap.size + 1, 8, none⟩ = some (.int .i64 d3) := (Zz 8 (by omega)).trans rfl
        have q9 : ((((((((((w2.setCell ⟨w.heap.size + 1, 0, none⟩ (.int .i64 (xs.length : Int))).setCell ⟨w.heap.size + 1, 1, none⟩ (.int .i64 c0)).setCell ⟨w.heap.size + 1, 2, none⟩ (.int .i64 c1)).setCell ⟨w.heap.size + 1, 3, none⟩ (.int .i64 c2)).setCell ⟨w.heap.size + 1, 4, none⟩ (.int .i64 c3)).setCell ⟨w.heap.size + 1, 5, none⟩ (.int .i64 d0)).setCell ⟨w.heap.size + 1, 6, none⟩ (.int .i64 d1)).setCell ⟨w.heap.size + 1, 7, none⟩ (.int .i64 d2)).setCell ⟨w.heap.size + 1, 8, none⟩ (.int .i64 d3)).setCell ⟨w.heap.size + 1, 9, none⟩ (.int .i64 off)).cell? ⟨w.heap.size + 1, 9, none⟩ = some (.int .i64 off) := (Zz 9 (by omega)).trans rfl
        exact bodyPost_ret (v := .tuple #[.agg #[.int .i64 (xs.length : Int), .int .i64 c0, .int .i64 c1, .int .i64 c2, .int .i64 c3, .int .i64 d0, .int .i64 d1, .int .i64 d2, .int .i64 d3, .int .i64 off], .bool ib]) (by simp [results, Try.results53, go_sem, q0, q1, q2, q3, q4, q5, q6, q7, q8, q9]) rfl ⟨_, by rw [hval.out], fun _ => by unfold vw; rw [Hc0.out, Hc1.out, Hc2.out, Hc3.out, Hd0.out, Hd1.out, Hd2.out, Hd3.out], ⟨_, _, _, _, _, _, _, _, _, _, rfl⟩, by repeat (first | with_reducible exact HX2.out | with_reducible refine Ext.setCell ?_ (by show w.heap.size ≤ w.heap.size + 1; omega) _)⟩
end Go.Proofs.Ytbkdfhlbjaiahaa
namespace Go.Proofs.Ytbkdfhlbjaiahaa
open Go.ChangeShapes Go.RowKit
set_option linter.unusedSimpArgs false
set_option linter.unusedVariables false

theorem fixView_any {w : World} {vS vT : Value} {xs ss : List Int} (hS : Ints w vS xs) (hT : Ints w vT ss) (off : Int) (lx : xs.length ≤ 1048576) (ls : ss.length ≤ 1048576) :
    Calls Try.prog 53 #[.agg #[vS, vT, .int .i64 off]] w fun e w' => FixVOk w xs ss off e w' := by
  by_cases h : Good xs ∧ ss.length = xs.length ∧ (0 ≤ off ∧ off ≤ 4096)
  · exact fixView_good hS hT off lx ls h.1 h.2.1 h.2.2
  · exact fixView_bad hS hT off lx ls h

end Go.Proofs.Ytbkdfhlbjaiahaa
namespace Go.Proofs.Ytbkdfhlbjaiahaa
open Go.ChangeShapes Go.RowKit FL
set_option linter.unusedSimpArgs false
set_option linter.unusedVariables false
theorem info77 : (Try.prog.info? 77).map (fun i => (i.zero, i.size, i.bytes)) = some (some (.agg #[.int .i64 0, .int .i64 0, .int .i64 0, .int .i64 0, .int .i64 0, .int .i64 0, .int .i64 0, .int .i64 0, .int .i64 0, .int .i64 0, .int .i64 0, .int .i64 0, .slice none 0 0]), 13, 120) := by kernel_rfl
theorem good_in {xs sv : List Int} {off : Int} (hv : ValidV xs sv off) (N : Int) : (∀ p ∈ offsL xs sv off, p < N) ↔ inN xs sv off N = true := by
  unfold offsL inN
  rw [decide_eq_true_iff]
  by_cases h : prod xs = 0
  · rw [if_pos h]
    exact ⟨fun _ => Or.inl h, fun _ p hp => by simp at hp⟩
  · rw [if_neg h]
    have hr := hv.2.2.2.2.resolve_left h
    have hp := good_pos hv.1 h
    have he := ends_in xs sv off hv.2.1.symm (fun n hn => (hp n hn).1)
    exact ⟨fun q => Or.inr ⟨hr.1, q _ he.2⟩, fun q p hpp => by
      have h1 := (q.resolve_left h).2
      have h2 := places_in xs sv off p hpp hv.2.1.symm
      omega⟩
/-- The opened array as the program keeps it. -/
def openC (xs sv : List Int) (off st dt : Int) (u : Value) : List Value := [.int .i64 xs.length, .int .i64 (xs.getD 0 0), .int .i64 (xs.getD 1 0), .int .i64 (xs.getD 2 0), .int .i64 (xs.getD 3 0), .int .i64 (sv.getD 0 0), .int .i64 (sv.getD 1 0), .int .i64 (sv.getD 2 0), .int .i64 (sv.getD 3 0), .int .i64 off, .int .i64 st, .int .i64 dt, u]
/-- The code of openArrays of one array. -/
def openL (ss : List St) (st : Int) (xs sv : List Int) (off : Int) : Int := if vHeap ss = true then (if GoodA ss st xs sv off then 0 else 2) else 1
def OpenOk (w : World) (ss : List St) (st : Int) (xs sv : List Int) (off : Int) (e : Ending) (w' : World) : Prop :=
  ∃ v, e = .returned (.tuple #[v, .int .i64 (openL ss st xs sv off)]) ∧ Bel w w' ∧ ((openL ss st xs sv off ≠ 0 ∧ v = .slice none 0 0) ∨
    (openL ss st xs sv off = 0 ∧ ∃ g cap u, v = .slice (some ⟨g, 0, none⟩) 1 cap ∧ CV w' u (ss.getD st.toNat s0).2 ∧ ∀ j x, (openC xs sv off st (ss.getD st.toNat s0).1 u)[j]? = some x → w'.cell? ⟨g, j, none⟩ = some x))
theorem own_ext {w w' : World} {base e size n : Nat} {v : Value} {xs : List Value} (h : w.ownsRow base e size v n xs) (x : Ext w w') : w'.ownsRow base e size v n xs := by
  refine ⟨h.1, ?_⟩
  rcases h.2 with h | ⟨g, cap, cur, rfl, h1, h2, h3⟩
  · exact Or.inl h
  · exact Or.inr ⟨g, cap, cur, rfl, h1, by rw [x.bl.block g (Array.getElem?_eq_some_iff.1 h2).1]; exact h2, h3⟩
theorem own_g {w : World} {base e size n : Nat} {v : Value} {xs : List Value} (h : w.ownsRow base e size v n xs) (hn : 0 < n) : ∃ g cap, v = .slice (some ⟨g, 0, none⟩) n cap ∧ base ≤ g := by
  rcases h.2 with ⟨_, h2⟩ | ⟨g, cap, cur, h1, h2, _⟩
  · omega
  · exact ⟨g, cap, h1, h2⟩
theorem openC_one (xs sv : List Int) (off st dt : Int) (u : Value) (hu : u.oneCell' = true) : ∀ x ∈ openC xs sv off st dt u, x.oneCell' = true := fun x hx => by
  simp only [openC, List.mem_cons, List.not_mem_nil, or_false] at hx
  rcases hx with rfl | rfl | rfl | rfl | rfl | rfl | rfl | rfl | rfl | rfl | rfl | rfl | rfl <;> first | rfl | exact hu
def OpDone (w : World) (ss : List St) (st : Int) (xs sv : List Int) (off : Int) (o : Value) (wr : World) : Prop := GoodA ss st xs sv off ∧ Bel w wr ∧ ∃ g cap u, o = .slice (some ⟨g, 0, none⟩) 1 cap ∧ CV wr u (ss.getD st.toNat s0).2 ∧ ∀ j x, (openC xs sv off st (ss.getD st.toNat s0).1 u)[j]? = some x → wr.cell? ⟨g, j, none⟩ = some x
def OpRel (w Wm : World) (b : Nat) (ss : List St) (st : Int) (xs sv : List Int) (off : Int) (o i : Value) (wr : World) : Prop := (i = .int .i64 0 ∧ o = .slice (some ⟨b, 0, none⟩) 0 1 ∧ wr = Wm) ∨ (i = .int .i64 1 ∧ OpDone w ss st xs sv off o wr)

set_option maxRecDepth 100000 in
set_option maxHeartbeats 4000000 in
theorem open_any {w : World} {v vS vT : Value} {ss : List St} {xs sv : List Int} {ga oa : Nat} (h : SV w v ss) (hg : SG ss) (hl : SL ss 1048576) (st : Int) (hS : Ints w vS xs) (hT : Ints w vT sv) (off : Int) (lx : xs.length ≤ 1048576) (ls : sv.length ≤ 1048576)
    (b0 : w.cell? ⟨ga, oa, none⟩ = some (.int .i64 st)) (b1 : w.cell? ⟨ga, oa + 1, none⟩ = some vS) (b2 : w.cell? ⟨ga, oa + 2, none⟩ = some vT) (b3 : w.cell? ⟨ga, oa + 3, none⟩ = some (.int .i64 off)) :
    Calls Try.prog 32 #[.agg #[v], .slice (some ⟨ga, oa, none⟩) 1 1] w fun e w' => OpenOk w ss st xs sv off e w' := by
  obtain ⟨i77, hi77, hy0, hy1, hy2⟩ := info_parts info77
  obtain ⟨sa, cap, rfl, hx⟩ := h
  have h : SV w (.slice sa ss.length cap) ss := ⟨sa, cap, rfl, hx⟩
  have x0 : Ext w (w.alloc (.cells #[.slice sa ss.length cap] 29)) := (Ext.refl w).alloc _ _
  have n1 := fun j => new_cell w #[.slice sa ss.length cap] 29 w.heap.size rfl j
  have C0 : Hid ((w.alloc (.cells #[.slice sa ss.length cap] 29)).cell? ⟨w.heap.size, 0, none⟩ = some (.slice sa ss.length cap)) := n1 0
  have X0 := hide x0
  have HH := hide (h.keep x0.bl)
  have HS := hide (hS.ext x0)
  have HT := hide (hT.ext x0)
  have B0 := hide (x0.box b0)
  have B1 := hide (x0.box b1)
  have B2 := hide (x0.box b2)
  have B3 := hide (x0.box b3)
  have hvh := hide (iVH_any HH.out hg hl)
  have hl1 := hl.1
  have H00 := hide h
  clear hx h x0 n1 b0 b1 b2 b3
  obtain ⟨s1, d1, rfl, _⟩ := hS
  obtain ⟨s2, d2, rfl, _⟩ := hT
  generalize hW0 : (w.alloc (.cells #[.slice sa ss.length cap] 29)) = W0 at C0 X0 HH HS HT B0 B1 B2 B3 hvh
  have HW0 := hide hW0
  clear hW0
  cases hV : vHeap ss with
  | false =>
    have ho : Hid (openL ss st xs sv off = 1) := by show openL ss st xs sv off = 1; unfold openL; rw [if_neg (by rw [hV]; simp)]
    rw [hV] at hvh
    go_enter Try.func32, Try.ntmps32
    go_wp2_with (go_at_call 9; rw [HW0.out]; refine hvh.out.mono ?_; rintro e w1 ⟨rfl, x1⟩)
    refine bodyPost_ret (results_tmp2 rfl _ _ _) rfl ?_
    unfold OpenOk
    rw [ho.out]
    exact ⟨_, rfl, (X0.out.trans x1).bl, Or.inl ⟨by omega, rfl⟩⟩
  | true =>
    have ho : Hid (openL ss st xs sv off = if GoodA ss st xs sv off then 0 else 2) := by show openL ss st xs sv off = _; unfold openL; rw [if_pos hV]
    rw [hV] at hvh
    go_enter Try.func32, Try.ntmps32
    go_wp2_with fail
    rw [HW0.out]
    refine hvh.out.mono ?_
    rintro e w1 ⟨rfl, x1⟩
    have hmk := run_make (P := Try.prog) w1 65 77 i77 (.agg #[.int .i64 0, .int .i64 0, .int .i64 0, .int .i64 0, .int .i64 0, .int .i64 0, .int .i64 0, .int .i64 0, .int .i64 0, .int .i64 0, .int .i64 0, .int .i64 0, .slice none 0 0]) Try.underlying65 hi77 hy0 .i64 .i64 0 1 (by omega) (by omega) (by rw [hy2]; omega) (by omega)
    have S0 := World.ownsRow_made (base := w.heap.size) (e := 77) (size := 13) w1 (madeCells #[.int .i64 0, .int .i64 0, .int .i64 0, .int .i64 0, .int .i64 0, .int .i64 0, .int .i64 0, .int .i64 0, .int .i64 0, .int .i64 0, .int .i64 0, .int .i64 0, .slice none 0 0] (1 * 13)) 1 (Below.size (X0.out.trans x1).bl) (by unfold maxLen; omega) (by simp [madeCells])
    have xm : Ext w1 (w1.alloc (.cells (madeCells #[.int .i64 0, .int .i64 0, .int .i64 0, .int .i64 0, .int .i64 0, .int .i64 0, .int .i64 0, .int .i64 0, .int .i64 0, .int .i64 0, .int .i64 0, .int .i64 0, .slice none 0 0] (1 * 13)) 77)) := (Ext.refl w1).alloc _ _
    have xx := x1.trans xm
    have XM := hide (X0.out.trans xx)
    have CM := hide (xx.box C0.out)
    have HHM := hide (HH.out.keep xx.bl)
    have HSM := hide (HS.out.ext xx)
    have HTM := hide (HT.out.ext xx)
    have BM0 := hide (xx.box B0.out)
    have BM1 := hide (xx.box B1.out)
    have BM2 := hide (xx.box B2.out)
    have BM3 := hide (xx.box B3.out)
    have HOwn := hide S0
    clear x1 xm xx S0 C0 HH HS HT B0 B1 B2 B3 X0 hvh HW0
    go_wp2_with fail
    generalize hWm : w1.alloc (.cells (madeCells #[.int .i64 0, .int .i64 0, .int .i64 0, .int .i64 0, .int .i64 0, .int .i64 0, .int .i64 0, .int .i64 0, .int .i64 0, .int .i64 0, .int .i64 0, .int .i64 0, .slice none 0 0] (1 * 13)) 77) = Wm at XM CM HHM HSM HTM BM0 BM1 BM2 BM3 HOwn
    have HWm := hide hWm
    clear hWm hmk
    first | rw [HWm.out] | skip
    generalize w1.heap.size = BB at HOwn ⊢
    go_loopw [6, 20] (fun o i wr => OpRel w Wm BB ss st xs sv off o i wr) (fun o i _ => 1 - (intOf i).toNat)
    case atStart => exact Or.inl ⟨rfl, rfl, by first | rfl | exact HWm.out⟩
    case round =>
      rcases hrel with ⟨rfl, rfl, rfl⟩ | ⟨rfl, hD⟩
      · have c0 := CM.out
        have b0 := BM0.out
        have b1 := BM1.out
        have b2 := BM2.out
        have b3 := BM3.out
        have xa : Ext wr (wr.alloc (.cells #[.int .i64 st, .slice s1 xs.length d1, .slice s2 sv.length d2, .int .i64 off] 42)) := (Ext.refl wr).alloc _ _
        have c0a := xa.box c0
        by_cases h1 : st < 0
        · have hno : Hid (openL ss st xs sv off = 2) := by show openL ss st xs sv off = 2; rw [ho.out, if_neg (fun q => by have := q.1.1; omega)]
          have hd : decide (st < 0) = true := decide_eq_true h1
          go_wp2
          refine bodyPost_ret (results_tmp2 rfl _ _ _) rfl ?_
          unfold OpenOk
          rw [hno.out]
          exact ⟨_, rfl, (XM.out.trans xa).bl, Or.inl ⟨by omega, rfl⟩⟩
        have hd1 : decide (st < 0) = false := decide_eq_false h1
        by_cases h2 : (ss.length : Int) ≤ st
        · have hno : Hid (openL ss st xs sv off = 2) := by show openL ss st xs sv off = 2; rw [ho.out, if_neg (fun q => by have := q.1.2; omega)]
          have hd : decide ((ss.length : Int) ≤ st) = true := decide_eq_true h2
          go_wp2
          refine bodyPost_ret (results_tmp2 rfl _ _ _) rfl ?_
          unfold OpenOk
          rw [hno.out]
          exact ⟨_, rfl, (XM.out.trans xa).bl, Or.inl ⟨by omega, rfl⟩⟩
        have hd2 : decide ((ss.length : Int) ≤ st) = false := decide_eq_false h2
        obtain ⟨k, rfl⟩ : ∃ k : Nat, st = (k : Int) := ⟨st.toNat, by omega⟩
        have hk : k < ss.length := by omega
        have hk0 : (0 : Int) ≤ (k : Int) := Int.natCast_nonneg _
        have hk1 : (k : Int) < (ss.length : Int) := by omega
        obtain ⟨sb0, cb0, eb0, hrow0⟩ := HHM.out
        injection eb0 with eb1 _ eb2
        subst eb1 eb2
        rcases hrow0 with h0 | ⟨bs, os, rfl, hrow⟩
        · rw [h0] at hk; simp at hk
        obtain ⟨q0, u, q1, q2⟩ := hrow k hk
        have CVw : Hid (CV w u (ss.getD k s0).2) := by
          obtain ⟨sb9, cb9, eb9, hrow9⟩ := H00.out
          injection eb9 with eb8 _ eb7
          rcases hrow9 with h0 | ⟨b9, o9, e9, hrow9⟩
          · rw [h0] at hk; simp at hk
          · rw [e9] at eb8
            injection eb8 with eb8
            injection eb8 with e3 e4 _
            subst e3 e4
            obtain ⟨_, u9, hu9, cv9⟩ := hrow9 k hk
            have := (XM.out.box hu9).symm.trans q1
            injection this with this
            rw [← this]
            exact cv9
        have hcl := hl.at k hk
        have q0a := xa.box q0
        have q1a := xa.box q1
        have Q2 := hide q2
        clear hrow q2
        obtain ⟨su, cu, rfl, _⟩ := Q2.out
        have hgood : Hid (ValidV xs sv off → (GoodA ss k xs sv off ↔ inN xs sv off ((ss.getD k s0).2.length : Int) = true)) := fun hv => by
          rw [← good_in hv]
          unfold GoodA
          rw [Int.toNat_natCast]
          exact ⟨fun q => q.2.2, fun q => ⟨⟨hk0, hk1⟩, hv, q⟩⟩
        have hbadv : Hid (¬ ValidV xs sv off → ¬ GoodA ss k xs sv off) := fun q1 q2 => q1 q2.2.1
        have hsk : Hid (ss.getD (k : Int).toNat s0 = ((ss.getD k s0).1, (ss.getD k s0).2)) := by show ss.getD (k : Int).toNat s0 = _; rw [Int.toNat_natCast]
        generalize (ss.getD k s0).1 = DT at q0 q0a hsk
        generalize (ss.getD k s0).2 = cs at q1 q1a Q2 hgood hcl hsk CVw
        have xb : Ext (wr.alloc (.cells #[.int .i64 (k : Int), .slice s1 xs.length d1, .slice s2 sv.length d2, .int .i64 off] 42)) ((wr.alloc (.cells #[.int .i64 (k : Int), .slice s1 xs.length d1, .slice s2 sv.length d2, .int .i64 off] 42)).alloc (.cells #[.int .i64 DT, .slice su cs.length cu] 54)) := (Ext.refl _).alloc _ _
        have xab := xa.trans xb
        have hfix := hide (fixView_any (HSM.out.ext xab) (HTM.out.ext xab) off lx ls)
        have na := fun j => new_cell wr #[.int .i64 (k : Int), .slice s1 xs.length d1, .slice s2 sv.length d2, .int .i64 off] 42 wr.heap.size rfl j
        have nb := fun j => new_cell (wr.alloc (.cells #[.int .i64 (k : Int), .slice s1 xs.length d1, .slice s2 sv.length d2, .int .i64 off] 42)) #[.int .i64 DT, .slice su cs.length cu] 54 (wr.heap.size + 1) (by simp) j
        have NA0 : Hid (((wr.alloc (.cells #[.int .i64 (k : Int), .slice s1 xs.length d1, .slice s2 sv.length d2, .int .i64 off] 42)).alloc (.cells #[.int .i64 DT, .slice su cs.length cu] 54)).cell? ⟨wr.heap.size, 0, none⟩ = some (.int .i64 (k : Int))) := xb.box (na 0)
        have NB0 : Hid (((wr.alloc (.cells #[.int .i64 (k : Int), .slice s1 xs.length d1, .slice s2 sv.length d2, .int .i64 off] 42)).alloc (.cells #[.int .i64 DT, .slice su cs.length cu] 54)).cell? ⟨wr.heap.size + 1, 0, none⟩ = some (.int .i64 DT)) := nb 0
        have NB1 : Hid (((wr.alloc (.cells #[.int .i64 (k : Int), .slice s1 xs.length d1, .slice s2 sv.length d2, .int .i64 off] 42)).alloc (.cells #[.int .i64 DT, .slice su cs.length cu] 54)).cell? ⟨wr.heap.size + 1, 1, none⟩ = some (.slice su cs.length cu)) := nb 1
        have XAB := hide xab
        clear xa xb xab na nb
        by_cases hv : ValidV xs sv off
        · have hdv : (dcValidV xs sv off) = true := dcValidV_t hv
          have hgv := hide (hgood.out hv)
          have HV := hide hv
          clear hv
          clear hgood hbadv
          go_wp2_with fail
          refine hfix.out.mono ?_
          rintro e w4 ⟨A, rfl, hA, _, x4⟩
          obtain rfl := hA HV.out
          rw [hdv]
          have p0 := x4.box NA0.out
          have p1 := x4.box NB0.out
          have p2 := x4.box NB1.out
          have X4 := hide (XAB.out.trans x4)
          clear x4 hfix NA0 NB0 NB1 XAB
          have hr := HV.out.1.2.1
          have hx4 := HV.out.1.1
          have hl2 := HV.out.2.1
          have ho2 := HV.out.2.2.1
          have hs2 := HV.out.2.2.2.1
          have xf : Ext w4 (w4.alloc (.cells (vw xs sv off) 75)) := (Ext.refl w4).alloc _ _
          have hwi := hide (within_n (cs.length : Int) ⟨by omega, by omega⟩ (w4.alloc (.cells (vw xs sv off) 75)) xs sv off hx4 hr hl2 hs2 ho2)
          have p0f := xf.box p0
          have p1f := xf.box p1
          have p2f := xf.box p2
          have nf := fun j => new_cell w4 (vw xs sv off) 75 w4.heap.size rfl j
          have NF := hide nf
          have X5 := hide (X4.out.trans xf)
          clear xf nf hr hx4 hl2 ho2 hs2
          have HC : Hid (∀ (st dt : Int) (u : Value), openC xs sv off st dt u = [.int .i64 xs.length, .int .i64 (xs.getD 0 0), .int .i64 (xs.getD 1 0), .int .i64 (xs.getD 2 0), .int .i64 (xs.getD 3 0), .int .i64 (sv.getD 0 0), .int .i64 (sv.getD 1 0), .int .i64 (sv.getD 2 0), .int .i64 (sv.getD 3 0), .int .i64 off, .int .i64 st, .int .i64 dt, u]) := fun _ _ _ => rfl
          unfold vw at p0f p1f p2f hwi NF X5 ⊢
          generalize xs.getD 0 0 = a0 at p0f p1f p2f hwi NF X5 HC ⊢
          generalize xs.getD 1 0 = a1 at p0f p1f p2f hwi NF X5 HC ⊢
          generalize xs.getD 2 0 = a2 at p0f p1f p2f hwi NF X5 HC ⊢
          generalize xs.getD 3 0 = a3 at p0f p1f p2f hwi NF X5 HC ⊢
          generalize sv.getD 0 0 = b0 at p0f p1f p2f hwi NF X5 HC ⊢
          generalize sv.getD 1 0 = b1 at p0f p1f p2f hwi NF X5 HC ⊢
          generalize sv.getD 2 0 = b2 at p0f p1f p2f hwi NF X5 HC ⊢
          generalize sv.getD 3 0 = b3 at p0f p1f p2f hwi NF X5 HC ⊢
          cases hin : inN xs sv off (cs.length : Int) with
          | false =>
            have hno : Hid (openL ss k xs sv off = 2) := by show openL ss k xs sv off = 2; rw [ho.out, if_neg (fun q => by have := hgv.out.1 q; rw [hin] at this; cases this)]
            rw [hin] at hwi
            go_wp2_with (go_at_call 54; refine hwi.out.mono ?_; rintro e w6 ⟨rfl, x6⟩)
            refine bodyPost_ret (results_tmp2 rfl _ _ _) rfl ?_
            unfold OpenOk
            rw [hno.out]
            exact ⟨_, rfl, ((XM.out.trans X5.out).trans x6).bl, Or.inl ⟨by omega, rfl⟩⟩
          | true =>
            have hG : Hid (GoodA ss k xs sv off) := hgv.out.2 hin
            rw [hin] at hwi
            go_wp2_with fail
            refine hwi.out.mono ?_
            rintro e w6 ⟨rfl, x6⟩
            have r0 := x6.box p0f
            have r1 := x6.box p1f
            have r2 := x6.box p2f
            have f0 := x6.box (NF.out 0)
            have f1 := x6.box (NF.out 1)
            have f2 := x6.box (NF.out 2)
            have f3 := x6.box (NF.out 3)
            have f4 := x6.box (NF.out 4)
            have f5 := x6.box (NF.out 5)
            have f6 := x6.box (NF.out 6)
            have f7 := x6.box (NF.out 7)
            have f8 := x6.box (NF.out 8)
            have f9 := x6.box (NF.out 9)
            have X6 := hide (X5.out.trans x6)
            clear x6 hwi NF p0f p1f p2f
            have HO6 := hide (own_ext HOwn.out X6.out)
            have hsz6 : w.heap.size ≤ (w6.alloc (.cells #[.int .i64 xs.length, .int .i64 a0, .int .i64 a1, .int .i64 a2, .int .i64 a3, .int .i64 b0, .int .i64 b1, .int .i64 b2, .int .i64 b3, .int .i64 off, .int .i64 (k : Int), .int .i64 DT, .slice su cs.length cu] 77)).heap.size := Below.size ((XM.out.trans X6.out).alloc _ _).bl
            have hnew : ∀ j x, ([.int .i64 xs.length, .int .i64 a0, .int .i64 a1, .int .i64 a2, .int .i64 a3, .int .i64 b0, .int .i64 b1, .int .i64 b2, .int .i64 b3, .int .i64 off, .int .i64 (k : Int), .int .i64 DT, .slice su cs.length cu] : List Value)[j]? = some x → (w6.alloc (.cells #[.int .i64 xs.length, .int .i64 a0, .int .i64 a1, .int .i64 a2, .int .i64 a3, .int .i64 b0, .int .i64 b1, .int .i64 b2, .int .i64 b3, .int .i64 off, .int .i64 (k : Int), .int .i64 DT, .slice su cs.length cu] 77)).cell? ((⟨w6.heap.size, 0, none⟩ : Addr).add j) = some x := fun j x hx => by
              have n1 := fun j => new_cell w6 #[.int .i64 xs.length, .int .i64 a0, .int .i64 a1, .int .i64 a2, .int .i64 a3, .int .i64 b0, .int .i64 b1, .int .i64 b2, .int .i64 b3, .int .i64 off, .int .i64 (k : Int), .int .i64 DT, .slice su cs.length cu] 77 w6.heap.size rfl j
              rw [Addr.add_lit, Nat.zero_add, n1 j]
              simpa using hx
            have hone : ∀ x ∈ ([.int .i64 xs.length, .int .i64 a0, .int .i64 a1, .int .i64 a2, .int .i64 a3, .int .i64 b0, .int .i64 b1, .int .i64 b2, .int .i64 b3, .int .i64 off, .int .i64 (k : Int), .int .i64 DT, .slice su cs.length cu] : List Value), x.oneCell' = true := fun x hx => by
              simp only [List.mem_cons, List.not_mem_nil, or_false] at hx
              rcases hx with rfl | rfl | rfl | rfl | rfl | rfl | rfl | rfl | rfl | rfl | rfl | rfl | rfl <;> rfl
            have Hsz6 := hide hsz6
            have Hnew := hide hnew
            have Hone := hide hone
            clear hsz6 hnew hone
            go_wp2_with (at_builtin; (refine wpList_append_own_at _ rfl _ _ 65 rfl w.heap.size 77 i77 (.agg #[.int .i64 0, .int .i64 0, .int .i64 0, .int .i64 0, .int .i64 0, .int .i64 0, .int .i64 0, .int .i64 0, .int .i64 0, .int .i64 0, .int .i64 0, .int .i64 0, .slice none 0 0]) 13 120 Try.underlying65 hi77 hy0 hy1 hy2 rfl (by decide) _ _ _ rfl (HO6.out.alloc _) ⟨w6.heap.size, 0, none⟩ 1 1 [.int .i64 xs.length, .int .i64 a0, .int .i64 a1, .int .i64 a2, .int .i64 a3, .int .i64 b0, .int .i64 b1, .int .i64 b2, .int .i64 b3, .int .i64 off, .int .i64 (k : Int), .int .i64 DT, .slice su cs.length cu] rfl rfl Hnew.out Hone.out (by unfold maxLen; omega) (by omega) Hsz6.out ?_); intro v9 w9 hown9 hgrow9 hnil9 hat9; obtain ⟨g9, c9, rfl, hg9⟩ := own_g hown9 (by omega); have HO9 := hide hown9; have HG9 := hide hgrow9; clear hown9 hgrow9 hnil9 hat9)
            have BEL : Bel w w9 := Below.grown ((XM.out.trans X6.out).alloc _ _).bl HG9.out Hsz6.out (fun j hj => (HOwn.out.lt j hj).1)
            have HBEL := hide BEL
            clear BEL
            go_roundw
            · refine Or.inr ⟨by go_num, hG.out, ?_, g9, c9, .slice su cs.length cu, rfl, ?_, fun j x hj => ?_⟩
              · exact HBEL.out
              · rw [hsk.out]
                exact CVw.out.keep HBEL.out
              · rw [hsk.out, HC.out] at hj
                have hjl := (List.getElem?_eq_some_iff.1 hj).1
                exact (HO9.out.cellAt j (by simpa using hjl)).trans (by simpa using hj)
            · simp [intOf]
        · have hdv : (dcValidV xs sv off) = false := dcValidV_f hv
          have hno : Hid (openL ss k xs sv off = 2) := by show openL ss k xs sv off = 2; rw [ho.out, if_neg (hbadv.out hv)]
          clear hv
          go_wp2_with fail
          refine hfix.out.mono ?_
          rintro e w4 ⟨A, rfl, _, ⟨a0, a1, a2, a3, a4, a5, a6, a7, a8, a9, rfl⟩, x4⟩
          rw [hdv]
          go_wp2
          refine bodyPost_ret (results_tmp2 rfl _ _ _) rfl ?_
          unfold OpenOk
          rw [hno.out]
          exact ⟨_, rfl, (((XM.out.trans XAB.out).trans x4).alloc _ _).bl, Or.inl ⟨by omega, rfl⟩⟩
      · go_wp2
        obtain ⟨hG, hB, hR⟩ := hD
        obtain ⟨g, cap', u, rfl, hR⟩ := hR
        refine bodyPost_ret (results_tmp2 rfl _ _ _) rfl ?_
        unfold OpenOk
        rw [ho.out, if_pos hG]
        exact ⟨_, rfl, hB, Or.inr ⟨rfl, g, cap', u, rfl, hR⟩⟩
end Go.Proofs.Ytbkdfhlbjaiahaa
namespace Go.Proofs.Ytbkdfhlbjaiahaa
open Go.ChangeShapes Go.RowKit FL
set_option linter.unusedSimpArgs false
set_option linter.unusedVariables false
theorem openL_zero (ss : List St) (st : Int) (xs sv : List Int) (off : Int) : (openL ss st xs sv off == 0) = (vHeap ss && (dcGoodA ss st xs sv off)) := by
  unfold openL
  cases h : vHeap ss with
  | false => simp
  | true =>
    by_cases g : GoodA ss st xs sv off
    · simp [if_pos g, dcGoodA_t g]
    · simp [if_neg g, dcGoodA_f g]

set_option maxRecDepth 100000 in
set_option maxHeartbeats 2000000 in
theorem iVA_any {w : World} {v vS vT : Value} {ss : List St} {xs sv : List Int} (h : SV w v ss) (hg : SG ss) (hl : SL ss 1048576) (st : Int) (hS : Ints w vS xs) (hT : Ints w vT sv) (off : Int) (lx : xs.length ≤ 1048576) (ls : sv.length ≤ 1048576) :
    Calls Try.prog 14 #[.agg #[v], .agg #[.int .i64 st, vS, vT, .int .i64 off]] w fun e w' => e = .returned (.bool (vHeap ss && (dcGoodA ss st xs sv off))) ∧ Bel w w' := by
  obtain ⟨sa, cap, rfl, hx⟩ := h
  have h : SV w (.slice sa ss.length cap) ss := ⟨sa, cap, rfl, hx⟩
  have x0 : Ext w (((w.alloc (.cells #[.slice sa ss.length cap] 29)).alloc (.cells #[.int .i64 st, vS, vT, .int .i64 off] 42)).alloc (.cells #[.int .i64 st, vS, vT, .int .i64 off] 42)) := (((Ext.refl w).alloc _ _).alloc _ _).alloc _ _
  have n3 := fun j => new_cell ((w.alloc (.cells #[.slice sa ss.length cap] 29)).alloc (.cells #[.int .i64 st, vS, vT, .int .i64 off] 42)) #[.int .i64 st, vS, vT, .int .i64 off] 42 (w.heap.size + 1 + 1) (by simp) j
  have ho := hide (open_any (ga := w.heap.size + 1 + 1) (oa := 0) (h.keep x0.bl) hg hl st (hS.ext x0) (hT.ext x0) off lx ls (n3 0) (n3 1) (n3 2) (n3 3))
  have X0 := hide x0
  have hz := hide (openL_zero ss st xs sv off)
  clear hx h x0 n3
  obtain ⟨s1, d1, rfl, _⟩ := hS
  obtain ⟨s2, d2, rfl, _⟩ := hT
  go_enter Try.func14, Try.ntmps14
  go_wp2_with fail
  refine ho.out.mono ?_
  rintro e w1 ⟨v1, rfl, x1, hv⟩
  clear hv
  generalize openL ss st xs sv off = C at hz ⊢
  go_wp2
  go_ret
  exact ⟨ret_bool hz.out, Bel.tr X0.out.bl x1⟩
end Go.Proofs.Ytbkdfhlbjaiahaa
namespace Go.Proofs.Ytbkdfhlbjaiahaa
open Go.ChangeShapes Go.RowKit
set_option linter.unusedSimpArgs false
set_option linter.unusedVariables false

set_option maxRecDepth 100000 in
set_option maxHeartbeats 1000000 in
theorem szInts_any (sa : Option Addr) (n cap : Nat) (left : Int) (hn : n ≤ 9223372036854775807) (hl : 0 ≤ left ∧ left ≤ 1048576) (w : World) :
    Calls Try.prog 49 #[.slice sa n cap, .int .i64 left] w fun e w' => e = .returned (.int .i64 (if left - n < 0 then -1 else left - n)) ∧ w' = w := by
  by_cases h : left - (n : Int) < 0
  · rw [if_pos h]
    go_enter Try.func49, Try.ntmps49
    go_wp2
    go_ret
    exact ⟨rfl, rfl⟩
  · rw [if_neg h]
    go_enter Try.func49, Try.ntmps49
    go_wp2
    go_ret
    exact ⟨rfl, rfl⟩

set_option maxRecDepth 100000 in
set_option maxHeartbeats 2000000 in
theorem eqView_true {w : World} {v u v' u' : Value} {xs ss : List Int} (off : Int) (h : Ints w v xs) (g : Ints w u ss) (h' : Ints w v' xs) (g' : Ints w u' ss) (lx : xs.length ≤ 1048576) (ls : ss.length ≤ 1048576) :
    Calls Try.prog 33 #[.agg #[v, u, .int .i64 off], .agg #[v', u', .int .i64 off]] w fun e w' => e = .returned (.bool true) ∧ Ext w w' := by
  have x0 : Ext w ((w.alloc (.cells #[v, u, .int .i64 off] 40)).alloc (.cells #[v', u', .int .i64 off] 40)) := ((Ext.refl w).alloc _ _).alloc _ _
  have y0 : Ext (w.alloc (.cells #[v, u, .int .i64 off] 40)) ((w.alloc (.cells #[v, u, .int .i64 off] 40)).alloc (.cells #[v', u', .int .i64 off] 40)) := (Ext.refl _).alloc _ _
  have n1 := fun j => new_cell w #[v, u, .int .i64 off] 40 w.heap.size rfl j
  have n2 := fun j => new_cell (w.alloc (.cells #[v, u, .int .i64 off] 40)) #[v', u', .int .i64 off] 40 (w.heap.size + 1) (by simp) j
  have a1 := y0.box (n1 1)
  have a2 := y0.box (n1 2)
  have b1 := n2 1
  have b2 := n2 2
  have H := hide (h.ext x0)
  have G := hide (g.ext x0)
  have H' := hide (h'.ext x0)
  have G' := hide (g'.ext x0)
  have X0 := hide x0
  clear n1 n2 x0 y0
  obtain ⟨sa, ca, rfl, _⟩ := h
  obtain ⟨sb, cb, rfl, _⟩ := g
  obtain ⟨sc, cc, rfl, _⟩ := h'
  obtain ⟨sd, cd, rfl, _⟩ := g'
  go_enter Try.func33, Try.ntmps33
  go_wp2_with fail
  refine (eqInts_any H.out H'.out (by omega)).mono ?_
  rintro e w1 ⟨rfl, x1⟩
  rw [show decide (xs = xs) = true from by simp]
  have a1' := x1.box a1
  have a2' := x1.box a2
  have b1' := x1.box b1
  have b2' := x1.box b2
  have G1 := hide (G.out.ext x1)
  have G1' := hide (G'.out.ext x1)
  have X1 := hide (X0.out.trans x1)
  clear a1 a2 b1 b2 x1 H H' G G' X0
  go_wp2_with fail
  refine (eqInts_any G1.out G1'.out (by omega)).mono ?_
  rintro e w2 ⟨rfl, x2⟩
  rw [show decide (ss = ss) = true from by simp]
  have a2'' := x2.box a2'
  have b2'' := x2.box b2'
  have X2 := hide (X1.out.trans x2)
  clear x2 a1' a2' b1' b2'
  go_wp2
  go_ret
  exact ⟨rfl, X2.out⟩
end Go.Proofs.Ytbkdfhlbjaiahaa
namespace Go.Proofs.Ytbkdfhlbjaiahaa
open Go.ChangeShapes Go.RowKit
set_option linter.unusedSimpArgs false
set_option linter.unusedVariables false

/-- What szView leaves. -/
def szL (n m : Nat) : Int := if (1048576 : Int) - n < 0 then -1 else if (1048576 : Int) - n - m < 0 then -1 else (1048576 : Int) - n - m

set_option maxRecDepth 100000 in
set_option maxHeartbeats 2000000 in
theorem szView_any (sa sb : Option Addr) (n ca m cb : Nat) (off : Int) (hn : n ≤ 9223372036854775807) (hm : m ≤ 9223372036854775807) (w : World) :
    Calls Try.prog 29 #[.agg #[.slice sa n ca, .slice sb m cb, .int .i64 off], .int .i64 1048576] w fun e w' => e = .returned (.int .i64 (szL n m)) ∧ Ext w w' := by
  have x0 : Ext w (w.alloc (.cells #[.slice sa n ca, .slice sb m cb, .int .i64 off] 35)) := (Ext.refl w).alloc _ _
  have X0 := hide x0
  clear x0
  by_cases h : (1048576 : Int) - (n : Int) < 0
  · have hs : Hid (szL n m = -1) := if_pos h
    go_enter Try.func29, Try.ntmps29
    go_wp2_with fail
    refine (szInts_any sa n ca 1048576 hn (by omega) _).mono ?_
    rintro e w1 ⟨rfl, rfl⟩
    rw [if_pos h]
    go_wp2
    go_ret
    exact ⟨ret_int hs.out.symm, X0.out⟩
  · have hb : 0 ≤ (1048576 : Int) - n ∧ (1048576 : Int) - n ≤ 1048576 := by omega
    by_cases h2 : (1048576 : Int) - (n : Int) - (m : Int) < 0
    · have hs : Hid (szL n m = -1) := by show szL n m = -1; unfold szL; rw [if_neg h, if_pos h2]
      go_enter Try.func29, Try.ntmps29
      go_wp2_with fail
      refine (szInts_any sa n ca 1048576 hn (by omega) _).mono ?_
      rintro e w1 ⟨rfl, rfl⟩
      rw [if_neg (by omega)]
      go_wp2_with fail
      refine (szInts_any sb m cb _ hm hb _).mono ?_
      rintro e w1 ⟨rfl, rfl⟩
      rw [if_pos h2]
      go_wp2
      go_ret
      exact ⟨ret_int hs.out.symm, X0.out⟩
    · have hs : Hid (szL n m = (1048576 : Int) - n - m) := by show szL n m = (1048576 : Int) - n - m; unfold szL; rw [if_neg h, if_neg h2]
      go_enter Try.func29, Try.ntmps29
      go_wp2_with fail
      refine (szInts_any sa n ca 1048576 hn (by omega) _).mono ?_
      rintro e w1 ⟨rfl, rfl⟩
      rw [if_neg (by omega)]
      go_wp2_with fail
      refine (szInts_any sb m cb _ hm hb _).mono ?_
      rintro e w1 ⟨rfl, rfl⟩
      rw [if_neg (by omega)]
      go_wp2
      go_ret
      exact ⟨ret_int hs.out.symm, X0.out⟩
end Go.Proofs.Ytbkdfhlbjaiahaa
namespace Go.Proofs.Ytbkdfhlbjaiahaa
open Go.ChangeShapes Go.RowKit
set_option linter.unusedSimpArgs false
set_option linter.unusedVariables false

def ToVOk (w : World) (xs ss : List Int) (off : Int) (e : Ending) (w' : World) : Prop :=
  ∃ b c : Nat, e = .returned (.agg #[.slice (some ⟨b, 0, none⟩) xs.length xs.length, .slice (some ⟨c, 0, none⟩) ss.length ss.length, .int .i64 off]) ∧ w.heap.size ≤ b ∧ b < c ∧ c < w'.heap.size ∧ Row w' b 0 xs ∧ Row w' c 0 ss ∧ Ext w w'

set_option maxRecDepth 100000 in
set_option maxHeartbeats 2000000 in
theorem toView_any {w : World} {v u : Value} {xs ss : List Int} (h : Ints w v xs) (g : Ints w u ss) (off : Int) (lx : xs.length ≤ 1048576) (ls : ss.length ≤ 1048576) :
    Calls Try.prog 31 #[.agg #[v, u, .int .i64 off]] w fun e w' => ToVOk w xs ss off e w' := by
  obtain ⟨sa, ca, rfl, rS⟩ := h
  obtain ⟨sb, cb, rfl, rT⟩ := g
  have x0 : Ext w (((w.alloc (.cells #[.slice sa xs.length ca, .slice sb ss.length cb, .int .i64 off] 35)).alloc (.cells #[.slice none 0 0, .slice none 0 0, .int .i64 0] 40)).alloc (.cells #[.slice none 0 0, .slice none 0 0, .int .i64 0] 40)) := (((Ext.refl w).alloc _ _).alloc _ _).alloc _ _
  have y1 : Ext (w.alloc (.cells #[.slice sa xs.length ca, .slice sb ss.length cb, .int .i64 off] 35)) (((w.alloc (.cells #[.slice sa xs.length ca, .slice sb ss.length cb, .int .i64 off] 35)).alloc (.cells #[.slice none 0 0, .slice none 0 0, .int .i64 0] 40)).alloc (.cells #[.slice none 0 0, .slice none 0 0, .int .i64 0] 40)) := ((Ext.refl _).alloc _ _).alloc _ _
  have y2 : Ext ((w.alloc (.cells #[.slice sa xs.length ca, .slice sb ss.length cb, .int .i64 off] 35)).alloc (.cells #[.slice none 0 0, .slice none 0 0, .int .i64 0] 40)) (((w.alloc (.cells #[.slice sa xs.length ca, .slice sb ss.length cb, .int .i64 off] 35)).alloc (.cells #[.slice none 0 0, .slice none 0 0, .int .i64 0] 40)).alloc (.cells #[.slice none 0 0, .slice none 0 0, .int .i64 0] 40)) := (Ext.refl _).alloc _ _
  have n1 := fun j => new_cell w #[.slice sa xs.length ca, .slice sb ss.length cb, .int .i64 off] 35 w.heap.size rfl j
  have n2 := fun j => new_cell (w.alloc (.cells #[.slice sa xs.length ca, .slice sb ss.length cb, .int .i64 off] 35)) #[.slice none 0 0, .slice none 0 0, .int .i64 0] 40 (w.heap.size + 1) (by simp) j
  have n3 := fun j => new_cell ((w.alloc (.cells #[.slice sa xs.length ca, .slice sb ss.length cb, .int .i64 off] 35)).alloc (.cells #[.slice none 0 0, .slice none 0 0, .int .i64 0] 40)) #[.slice none 0 0, .slice none 0 0, .int .i64 0] 40 (w.heap.size + 1 + 1) (by simp) j
  have a1 := y1.box (n1 1)
  have a2 := y1.box (n1 2)
  have r0 := y2.box (n2 0)
  have r1 := y2.box (n2 1)
  have r2 := y2.box (n2 2)
  have o0 : (((w.alloc (.cells #[.slice sa xs.length ca, .slice sb ss.length cb, .int .i64 off] 35)).alloc (.cells #[.slice none 0 0, .slice none 0 0, .int .i64 0] 40)).alloc (.cells #[.slice none 0 0, .slice none 0 0, .int .i64 0] 40)).cell? ⟨w.heap.size + 1 + 1, 0, none⟩ = some (.slice none 0 0) := n3 0
  have o1 : (((w.alloc (.cells #[.slice sa xs.length ca, .slice sb ss.length cb, .int .i64 off] 35)).alloc (.cells #[.slice none 0 0, .slice none 0 0, .int .i64 0] 40)).alloc (.cells #[.slice none 0 0, .slice none 0 0, .int .i64 0] 40)).cell? ⟨w.heap.size + 1 + 1, 1, none⟩ = some (.slice none 0 0) := n3 1
  have o2 : (((w.alloc (.cells #[.slice sa xs.length ca, .slice sb ss.length cb, .int .i64 off] 35)).alloc (.cells #[.slice none 0 0, .slice none 0 0, .int .i64 0] 40)).alloc (.cells #[.slice none 0 0, .slice none 0 0, .int .i64 0] 40)).cell? ⟨w.heap.size + 1 + 1, 2, none⟩ = some (.int .i64 0) := n3 2
  have HS : Hid (Ints (((w.alloc (.cells #[.slice sa xs.length ca, .slice sb ss.length cb, .int .i64 off] 35)).alloc (.cells #[.slice none 0 0, .slice none 0 0, .int .i64 0] 40)).alloc (.cells #[.slice none 0 0, .slice none 0 0, .int .i64 0] 40)) (.slice sa xs.length ca) xs) := Ints.ext ⟨sa, ca, rfl, rS⟩ x0
  have HT : Hid (Ints (((w.alloc (.cells #[.slice sa xs.length ca, .slice sb ss.length cb, .int .i64 off] 35)).alloc (.cells #[.slice none 0 0, .slice none 0 0, .int .i64 0] 40)).alloc (.cells #[.slice none 0 0, .slice none 0 0, .int .i64 0] 40)) (.slice sb ss.length cb) ss) := Ints.ext ⟨sb, cb, rfl, rT⟩ x0
  have X0 := hide x0
  have hsz : Hid ((((w.alloc (.cells #[.slice sa xs.length ca, .slice sb ss.length cb, .int .i64 off] 35)).alloc (.cells #[.slice none 0 0, .slice none 0 0, .int .i64 0] 40)).alloc (.cells #[.slice none 0 0, .slice none 0 0, .int .i64 0] 40)).heap.size = w.heap.size + 1 + 1 + 1) := by show (((w.alloc (.cells #[.slice sa xs.length ca, .slice sb ss.length cb, .int .i64 off] 35)).alloc (.cells #[.slice none 0 0, .slice none 0 0, .int .i64 0] 40)).alloc (.cells #[.slice none 0 0, .slice none 0 0, .int .i64 0] 40)).heap.size = _; simp
  have HT0 : Hid (Ints w (.slice sb ss.length cb) ss) := ⟨sb, cb, rfl, rT⟩
  clear n1 n2 n3 y1 y2 x0 rS rT
  go_enter Try.func31, Try.ntmps31
  go_wp2_with fail
  generalize hW : (((w.alloc (.cells #[.slice sa xs.length ca, .slice sb ss.length cb, .int .i64 off] 35)).alloc (.cells #[.slice none 0 0, .slice none 0 0, .int .i64 0] 40)).alloc (.cells #[.slice none 0 0, .slice none 0 0, .int .i64 0] 40)) = W0 at a1 a2 r0 r1 r2 o0 o1 o2 HS HT X0 hsz ⊢
  clear hW
  refine (toInts_any HS.out lx).mono ?_
  rintro e w1 ⟨rfl, row1, x1, s1⟩
  have T1 := hide (HT.out.ext x1)
  have b1 := x1.box a1
  have b2 := x1.box a2
  have p0 := x1.box o0
  have p1 := x1.box o1
  have p2 := x1.box o2
  have q0 := x1.box r0
  have q1 := x1.box r1
  have q2 := x1.box r2
  have X1 := hide (X0.out.trans x1)
  have pf := fun o => X1.out.unfrozen (b := w.heap.size + 1 + 1) (by omega) o
  have Row1 := hide row1
  have S1 := hide s1
  clear a1 a2 r0 r1 r2 o0 o1 o2 x1 row1 s1 HS HT X0
  have m1 : Mut (w.heap.size + 1 + 1) w1 (w1.setCell ⟨w.heap.size + 1 + 1, 0, none⟩ (.slice (some ⟨W0.heap.size, 0, none⟩) xs.length xs.length)) := (Mut.refl _ _).setCell _ _
  have c2 := m1.box (by omega) b2
  have d0 : (w1.setCell ⟨w.heap.size + 1 + 1, 0, none⟩ (.slice (some ⟨W0.heap.size, 0, none⟩) xs.length xs.length)).cell? ⟨w.heap.size + 1 + 1, 0, none⟩ = some (.slice (some ⟨W0.heap.size, 0, none⟩) xs.length xs.length) := World.cell?_setCell_same _ _ _ p0
  have d1 : (w1.setCell ⟨w.heap.size + 1 + 1, 0, none⟩ (.slice (some ⟨W0.heap.size, 0, none⟩) xs.length xs.length)).cell? ⟨w.heap.size + 1 + 1, 1, none⟩ = some (.slice none 0 0) := (World.cell?_setCell_other _ _ _ _ (by intro h; simp only [Addr.mk.injEq] at h; omega)).trans p1
  have d2 : (w1.setCell ⟨w.heap.size + 1 + 1, 0, none⟩ (.slice (some ⟨W0.heap.size, 0, none⟩) xs.length xs.length)).cell? ⟨w.heap.size + 1 + 1, 2, none⟩ = some (.int .i64 0) := (World.cell?_setCell_other _ _ _ _ (by intro h; simp only [Addr.mk.injEq] at h; omega)).trans p2
  have f0 := m1.box (by omega) q0
  have f1 := m1.box (by omega) q1
  have f2 := m1.box (by omega) q2
  have XX := hide (X1.out.setCell (p := ⟨w.heap.size + 1 + 1, 0, none⟩) (by show w.heap.size ≤ w.heap.size + 1 + 1; omega) (.slice (some ⟨W0.heap.size, 0, none⟩) xs.length xs.length))
  have RowA := hide (Row1.out.mut m1 (by have := hsz.out; omega))
  have HTT := hide (HT0.out.ext XX.out)
  have SZ : Hid ((w1.setCell ⟨w.heap.size + 1 + 1, 0, none⟩ (.slice (some ⟨W0.heap.size, 0, none⟩) xs.length xs.length)).heap.size = w1.heap.size) := by show (w1.setCell ⟨w.heap.size + 1 + 1, 0, none⟩ (.slice (some ⟨W0.heap.size, 0, none⟩) xs.length xs.length)).heap.size = _; simp [World.setCell]
  clear m1
  go_wp2_with fail
  generalize hW2 : (w1.setCell ⟨w.heap.size + 1 + 1, 0, none⟩ (.slice (some ⟨W0.heap.size, 0, none⟩) xs.length xs.length)) = W2 at c2 d0 d1 d2 f0 f1 f2 XX RowA HTT SZ ⊢
  clear hW2 b1 b2 p0 p1 p2 q0 q1 q2 pf T1 Row1 X1
  refine (toInts_any HTT.out ls).mono ?_
  rintro e w2 ⟨rfl, row2, x2, s2⟩
  have g2 := x2.box c2
  have e0 := x2.box d0
  have e1 := x2.box d1
  have e2 := x2.box d2
  have h0 := x2.box f0
  have h1 := x2.box f1
  have h2 := x2.box f2
  have RB := hide (RowA.out.ext x2)
  have RC := hide row2
  have XZ := hide (XX.out.trans x2)
  have pf := fun o => XZ.out.unfrozen (b := w.heap.size + 1 + 1) (by omega) o
  have qf := fun o => XZ.out.unfrozen (b := w.heap.size + 1) (by omega) o
  have HSZ : Hid (W0.heap.size = w.heap.size + 1 + 1 + 1 ∧ W0.heap.size < W2.heap.size ∧ W2.heap.size < w2.heap.size) := ⟨hsz.out, by have := S1.out; have := SZ.out; omega, s2⟩
  clear c2 d0 d1 d2 f0 f1 f2 RowA row2 x2 XX HTT SZ S1 hsz s2
  go_wp2
  refine bodyPost_ret (v := .agg #[.slice (some ⟨W0.heap.size, 0, none⟩) xs.length xs.length, .slice (some ⟨W2.heap.size, 0, none⟩) ss.length ss.length, .int .i64 off]) (by simp [results, Try.results31, go_sem, h0, h1, h2]) rfl ⟨W0.heap.size, W2.heap.size, rfl, ?_, ?_, ?_, ?_, ?_, ?_⟩
  · have := HSZ.out; omega
  · exact HSZ.out.2.1
  · have := HSZ.out.2.2; simpa [World.setCell] using this
  · intro j hj
    have := HSZ.out
    iterate 5 rw [World.cell?_setCell_other _ _ _ _ (by intro h; simp only [Addr.mk.injEq] at h; omega)]
    exact RB.out j hj
  · intro j hj
    have := HSZ.out
    iterate 5 rw [World.cell?_setCell_other _ _ _ _ (by intro h; simp only [Addr.mk.injEq] at h; omega)]
    exact RC.out j hj
  · exact ((((XZ.out.setCell (by show w.heap.size ≤ w.heap.size + 1 + 1; omega) _).setCell (by show w.heap.size ≤ w.heap.size + 1 + 1; omega) _).setCell (by show w.heap.size ≤ w.heap.size + 1; omega) _).setCell (by show w.heap.size ≤ w.heap.size + 1; omega) _).setCell (by show w.heap.size ≤ w.heap.size + 1; omega) _
end Go.Proofs.Ytbkdfhlbjaiahaa
namespace Go.Proofs.Ytbkdfhlbjaiahaa
open Go.ChangeShapes Go.RowKit
set_option linter.unusedSimpArgs false
set_option linter.unusedVariables false

set_option maxRecDepth 100000 in
set_option maxHeartbeats 2000000 in
theorem eqArray_true {w : World} {v u v' u' : Value} {xs ss : List Int} (st off : Int) (h : Ints w v xs) (g : Ints w u ss) (h' : Ints w v' xs) (g' : Ints w u' ss) (lx : xs.length ≤ 1048576) (ls : ss.length ≤ 1048576) :
    Calls Try.prog 15 #[.agg #[.int .i64 st, v, u, .int .i64 off], .agg #[.int .i64 st, v', u', .int .i64 off]] w fun e w' => e = .returned (.bool true) ∧ Ext w w' := by
  have x0 : Ext w ((w.alloc (.cells #[.int .i64 st, v, u, .int .i64 off] 42)).alloc (.cells #[.int .i64 st, v', u', .int .i64 off] 42)) := ((Ext.refl w).alloc _ _).alloc _ _
  have HE := hide (eqView_true off (h.ext x0) (g.ext x0) (h'.ext x0) (g'.ext x0) lx ls)
  have X0 := hide x0
  clear x0
  obtain ⟨sa, ca, rfl, _⟩ := h
  obtain ⟨sb, cb, rfl, _⟩ := g
  obtain ⟨sc, cc, rfl, _⟩ := h'
  obtain ⟨sd, cd, rfl, _⟩ := g'
  go_enter Try.func15, Try.ntmps15
  go_wp2_with fail
  refine HE.out.mono ?_
  rintro e w1 ⟨rfl, x1⟩
  have X1 := hide (X0.out.trans x1)
  clear x1
  go_wp2
  go_ret
  exact ⟨rfl, X1.out⟩

set_option maxRecDepth 100000 in
set_option maxHeartbeats 2000000 in
theorem toArray_any {w : World} {v u : Value} {xs ss : List Int} (st : Int) (h : Ints w v xs) (g : Ints w u ss) (off : Int) (lx : xs.length ≤ 1048576) (ls : ss.length ≤ 1048576) :
    Calls Try.prog 13 #[.agg #[.int .i64 st, v, u, .int .i64 off]] w fun e w' => ∃ b c : Nat, e = .returned (.agg #[.int .i64 st, .slice (some ⟨b, 0, none⟩) xs.length xs.length, .slice (some ⟨c, 0, none⟩) ss.length ss.length, .int .i64 off]) ∧ w.heap.size ≤ b ∧ b < c ∧ c < w'.heap.size ∧ Row w' b 0 xs ∧ Row w' c 0 ss ∧ Ext w w' := by
  obtain ⟨sa, ca, rfl, rS⟩ := h
  obtain ⟨sb, cb, rfl, rT⟩ := g
  have h : Ints w (.slice sa xs.length ca) xs := ⟨sa, ca, rfl, rS⟩
  have g : Ints w (.slice sb ss.length cb) ss := ⟨sb, cb, rfl, rT⟩
  generalize hW1 : (w.alloc (.cells #[.int .i64 st, .slice sa xs.length ca, .slice sb ss.length cb, .int .i64 off] 37)) = W1
  have x1 : Ext w W1 := by rw [← hW1]; exact (Ext.refl w).alloc _ _
  have hs1 : W1.heap.size = w.heap.size + 1 := by rw [← hW1]; simp
  have x2 : Ext W1 (W1.alloc (.cells #[.int .i64 0, .slice none 0 0, .slice none 0 0, .int .i64 0] 42)) := (Ext.refl W1).alloc _ _
  have x3 : Ext (W1.alloc (.cells #[.int .i64 0, .slice none 0 0, .slice none 0 0, .int .i64 0] 42)) ((W1.alloc (.cells #[.int .i64 0, .slice none 0 0, .slice none 0 0, .int .i64 0] 42)).alloc (.cells #[.int .i64 st, .slice none 0 0, .slice none 0 0, .int .i64 0] 42)) := (Ext.refl _).alloc _ _
  have r0 := fun j => new_cell W1 #[.int .i64 0, .slice none 0 0, .slice none 0 0, .int .i64 0] 42 (w.heap.size + 1) hs1.symm j
  have o0 := fun j => new_cell (W1.alloc (.cells #[.int .i64 0, .slice none 0 0, .slice none 0 0, .int .i64 0] 42)) #[.int .i64 st, .slice none 0 0, .slice none 0 0, .int .i64 0] 42 (w.heap.size + 1 + 1) (by simp [hs1]) j
  have HX := hide ((x1.trans x2).trans x3)
  have R0 := hide (x3.box (r0 0))
  have R1 := hide (x3.box (r0 1))
  have R2 := hide (x3.box (r0 2))
  have R3 := hide (x3.box (r0 3))
  have O0 := hide (o0 0)
  have O1 := hide (o0 1)
  have O2 := hide (o0 2)
  have O3 := hide (o0 3)
  have hs3 : Hid (((W1.alloc (.cells #[.int .i64 0, .slice none 0 0, .slice none 0 0, .int .i64 0] 42)).alloc (.cells #[.int .i64 st, .slice none 0 0, .slice none 0 0, .int .i64 0] 42)).heap.size = w.heap.size + 3) := by show ((W1.alloc _).alloc _).heap.size = _; simp [hs1]
  have HC := hide (toView_any (h.ext HX.out) (g.ext HX.out) off lx ls)
  clear rS rT h g x1 x2 x3 r0 o0 hs1
  subst hW1
  go_enter Try.func13, Try.ntmps13
  go_wp2_with fail
  generalize hW3 : (((w.alloc (.cells #[.int .i64 st, .slice sa xs.length ca, .slice sb ss.length cb, .int .i64 off] 37)).alloc (.cells #[.int .i64 0, .slice none 0 0, .slice none 0 0, .int .i64 0] 42)).alloc (.cells #[.int .i64 st, .slice none 0 0, .slice none 0 0, .int .i64 0] 42)) = W3 at *
  clear hW3
  refine HC.out.mono ?_
  rintro e w2 ⟨b, c, rfl, hb, hbc, hc, rb, rc, hx⟩
  rw [hs3.out] at hb
  have rc0 := hx.box R0.out
  have rc1 := hx.box R1.out
  have rc2 := hx.box R2.out
  have rc3 := hx.box R3.out
  have oc0 := hx.box O0.out
  have oc1 := hx.box O1.out
  have oc2 := hx.box O2.out
  have oc3 := hx.box O3.out
  have HE := hide (HX.out.trans hx)
  have fz := fun b o (hb : w.heap.size ≤ b) => HE.out.unfrozen (b := b) hb o
  have f1 := fun o => fz (w.heap.size + 1) o (by omega)
  have f3 := fun o => fz (w.heap.size + 1 + 1) o (by omega)
  have RB := hide rb
  have RC := hide rc
  clear hx HX HC R0 R1 R2 R3 O0 O1 O2 O3 hs3 fz rb rc
  go_wp2_with fail
  generalize hV1 : (.slice (some ⟨b, 0, none⟩) xs.length xs.length : Value) = V1
  generalize hV2 : (.slice (some ⟨c, 0, none⟩) ss.length ss.length : Value) = V2
  have M1 : Mut (w.heap.size + 1 + 1) w2 (((w2.setCell ⟨w.heap.size + 1 + 1, 1, none⟩ V1).setCell ⟨w.heap.size + 1 + 1, 2, none⟩ V2).setCell ⟨w.heap.size + 1 + 1, 3, none⟩ (.int .i64 off)) := (((Mut.refl _ _).setCell _ _).setCell _ _).setCell _ _
  generalize hW5 : (((w2.setCell ⟨w.heap.size + 1 + 1, 1, none⟩ V1).setCell ⟨w.heap.size + 1 + 1, 2, none⟩ V2).setCell ⟨w.heap.size + 1 + 1, 3, none⟩ (.int .i64 off)) = W5 at M1 ⊢
  clear hW5
  have d0 := M1.box (show w.heap.size + 1 ≠ w.heap.size + 1 + 1 by omega) rc0
  have d1 := M1.box (show w.heap.size + 1 ≠ w.heap.size + 1 + 1 by omega) rc1
  have d2 := M1.box (show w.heap.size + 1 ≠ w.heap.size + 1 + 1 by omega) rc2
  have d3 := M1.box (show w.heap.size + 1 ≠ w.heap.size + 1 + 1 by omega) rc3
  have M2 : Mut (w.heap.size + 1) W5 ((((W5.setCell ⟨w.heap.size + 1, 0, none⟩ (.int .i64 st)).setCell ⟨w.heap.size + 1, 1, none⟩ V1).setCell ⟨w.heap.size + 1, 2, none⟩ V2).setCell ⟨w.heap.size + 1, 3, none⟩ (.int .i64 off)) := ((((Mut.refl _ _).setCell _ _).setCell _ _).setCell _ _).setCell _ _
  have e0 : ((((W5.setCell ⟨w.heap.size + 1, 0, none⟩ (.int .i64 st)).setCell ⟨w.heap.size + 1, 1, none⟩ V1).setCell ⟨w.heap.size + 1, 2, none⟩ V2).setCell ⟨w.heap.size + 1, 3, none⟩ (.int .i64 off)).cell? ⟨w.heap.size + 1, 0, none⟩ = some (.int .i64 st) := near (by omega) (near (by omega) (near (by omega) (World.cell?_setCell_same _ _ _ d0)))
  have e1 : ((((W5.setCell ⟨w.heap.size + 1, 0, none⟩ (.int .i64 st)).setCell ⟨w.heap.size + 1, 1, none⟩ V1).setCell ⟨w.heap.size + 1, 2, none⟩ V2).setCell ⟨w.heap.size + 1, 3, none⟩ (.int .i64 off)).cell? ⟨w.heap.size + 1, 1, none⟩ = some V1 := near (by omega) (near (by omega) (World.cell?_setCell_same _ _ _ (near (by omega) d1)))
  have e2 : ((((W5.setCell ⟨w.heap.size + 1, 0, none⟩ (.int .i64 st)).setCell ⟨w.heap.size + 1, 1, none⟩ V1).setCell ⟨w.heap.size + 1, 2, none⟩ V2).setCell ⟨w.heap.size + 1, 3, none⟩ (.int .i64 off)).cell? ⟨w.heap.size + 1, 2, none⟩ = some V2 := near (by omega) (World.cell?_setCell_same _ _ _ (near (by omega) (near (by omega) d2)))
  have e3 : ((((W5.setCell ⟨w.heap.size + 1, 0, none⟩ (.int .i64 st)).setCell ⟨w.heap.size + 1, 1, none⟩ V1).setCell ⟨w.heap.size + 1, 2, none⟩ V2).setCell ⟨w.heap.size + 1, 3, none⟩ (.int .i64 off)).cell? ⟨w.heap.size + 1, 3, none⟩ = some (.int .i64 off) := World.cell?_setCell_same _ _ _ (near (by omega) (near (by omega) (near (by omega) d3)))
  generalize hW9 : ((((W5.setCell ⟨w.heap.size + 1, 0, none⟩ (.int .i64 st)).setCell ⟨w.heap.size + 1, 1, none⟩ V1).setCell ⟨w.heap.size + 1, 2, none⟩ V2).setCell ⟨w.heap.size + 1, 3, none⟩ (.int .i64 off)) = W9 at M2 e0 e1 e2 e3 ⊢
  refine bodyPost_ret (v := .agg #[.int .i64 st, V1, V2, .int .i64 off]) (by simp [results, Try.results13, go_sem, e0, e1, e2, e3]) rfl ⟨b, c, by rw [← hV1, ← hV2], by omega, hbc, Nat.lt_of_lt_of_le hc (Nat.le_trans M1.size M2.size), (RB.out.mut M1 (by omega)).mut M2 (by omega), (RC.out.mut M1 (by omega)).mut M2 (by omega), M2.ext (M1.ext HE.out (by omega)) (by omega)⟩

def SzAOk (left : Int) (n m : Nat) (e : Ending) : Prop := ∃ r : Int, e = .returned (.int .i64 r) ∧ (r < 0 ∨ (0 ≤ r ∧ n ≤ 1048576 ∧ m ≤ 1048576))
set_option maxRecDepth 100000 in
set_option maxHeartbeats 2000000 in
theorem szView_rel (sa sb : Option Addr) (n ca m cb : Nat) (off left : Int) (hl : 0 ≤ left ∧ left ≤ 1048576) (hn : n ≤ 9223372036854775807) (hm : m ≤ 9223372036854775807) (w : World) :
    Calls Try.prog 29 #[.agg #[.slice sa n ca, .slice sb m cb, .int .i64 off], .int .i64 left] w fun e w' => SzAOk left n m e ∧ Ext w w' := by
  have x0 : Ext w (w.alloc (.cells #[.slice sa n ca, .slice sb m cb, .int .i64 off] 35)) := (Ext.refl w).alloc _ _
  have X0 := hide x0
  clear x0
  by_cases h : left - (n : Int) < 0
  · go_enter Try.func29, Try.ntmps29
    go_wp2_with fail
    refine (szInts_any sa n ca left hn hl _).mono ?_
    rintro e w1 ⟨rfl, rfl⟩
    rw [if_pos (by omega)]
    go_wp2
    go_ret
    exact ⟨⟨_, rfl, Or.inl (by omega)⟩, X0.out⟩
  · have hb : 0 ≤ left - n ∧ left - n ≤ 1048576 := by omega
    by_cases h2 : left - (n : Int) - (m : Int) < 0
    · go_enter Try.func29, Try.ntmps29
      go_wp2_with fail
      refine (szInts_any sa n ca left hn hl _).mono ?_
      rintro e w1 ⟨rfl, rfl⟩
      rw [if_neg (by omega)]
      go_wp2_with fail
      refine (szInts_any sb m cb _ hm hb _).mono ?_
      rintro e w2 ⟨rfl, rfl⟩
      rw [if_pos (by omega)]
      go_wp2
      go_ret
      exact ⟨⟨_, rfl, Or.inl (by omega)⟩, X0.out⟩
    · go_enter Try.func29, Try.ntmps29
      go_wp2_with fail
      refine (szInts_any sa n ca left hn hl _).mono ?_
      rintro e w1 ⟨rfl, rfl⟩
      rw [if_neg (by omega)]
      go_wp2_with fail
      refine (szInts_any sb m cb _ hm hb _).mono ?_
      rintro e w2 ⟨rfl, rfl⟩
      rw [if_neg (by omega)]
      go_wp2
      go_ret
      exact ⟨⟨_, rfl, Or.inr ⟨by omega, by omega, by omega⟩⟩, X0.out⟩

set_option maxRecDepth 100000 in
set_option maxHeartbeats 2000000 in
theorem szArray_any (st : Int) (sa sb : Option Addr) (n ca m cb : Nat) (off left : Int) (hl : 0 ≤ left ∧ left ≤ 1048576) (hn : n ≤ 9223372036854775807) (hm : m ≤ 9223372036854775807) (w : World) :
    Calls Try.prog 11 #[.agg #[.int .i64 st, .slice sa n ca, .slice sb m cb, .int .i64 off], .int .i64 left] w fun e w' => SzAOk left n m e ∧ Ext w w' := by
  have x0 : Ext w (w.alloc (.cells #[.int .i64 st, .slice sa n ca, .slice sb m cb, .int .i64 off] 37)) := (Ext.refl w).alloc _ _
  have X0 := hide x0
  clear x0
  go_enter Try.func11, Try.ntmps11
  go_wp2_with fail
  refine (szView_rel sa sb n ca m cb off left hl hn hm _).mono ?_
  rintro e w1 ⟨⟨r, rfl, hr⟩, x1⟩
  have X1 := hide (X0.out.trans x1)
  clear x1
  rcases hr with hr | ⟨h1, h2, h3⟩
  · go_wp2
    go_ret
    exact ⟨⟨_, rfl, Or.inl (by omega)⟩, X1.out⟩
  · have hr : ¬ r < 0 := by omega
    go_wp2
    go_ret
    exact ⟨⟨_, rfl, Or.inr ⟨by omega, h2, h3⟩⟩, X1.out⟩
end Go.Proofs.Ytbkdfhlbjaiahaa
