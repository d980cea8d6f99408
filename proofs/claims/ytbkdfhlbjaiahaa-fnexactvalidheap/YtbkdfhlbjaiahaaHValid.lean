import Derived.Test.YtbkdfhlbjaiahaaHBase
import Derived.Test.YtbkdfhlbjaiahaaCells3
namespace Go.Proofs.Ytbkdfhlbjaiahaa
open Go.ChangeShapes Go.RowKit FL
set_option linter.unusedSimpArgs false
set_option linter.unusedVariables false
def cellB (dt : Int) (c : C3) : Bool := validB dt c.1 c.2.1 c.2.2
theorem vStore_eq (dt : Int) (cs : List C3) : vStore (dt, cs) = (isDtB dt && decide (cs.length ≤ 4096) && cs.all (cellB dt)) := rfl

set_option maxRecDepth 100000 in
set_option maxHeartbeats 1000000 in
theorem validStore_any {w : World} {v : Value} {cs : List C3} (dt : Int) (h : CV w v cs) (hg : CG cs) (hl : cs.length ≤ 1048576) :
    Calls Try.prog 27 #[.agg #[.int .i64 dt, v]] w fun e w' => e = .returned (.bool (vStore (dt, cs))) ∧ Ext w w' := by
  rw [vStore_eq]
  obtain ⟨sa, cap, rfl, hx⟩ := h
  have x0 : Hid (Ext w (w.alloc (.cells #[.int .i64 dt, .slice sa cs.length cap] 54))) := (Ext.refl w).alloc _ _
  have HX := hide hx
  clear hx
  cases hd : isDtB dt with
  | false =>
    have Hd := hide hd
    clear hd
    go_enter Try.func27, Try.ntmps27
    go_wp2_with (go_at_call 46; refine (isDType_any _ _).mono ?_; rintro e w' ⟨rfl, rfl⟩; rw [Hd.out])
    go_ret
    exact ⟨rfl, x0.out⟩
  | true =>
    have Hd := hide hd
    clear hd
    by_cases h4 : cs.length ≤ 4096
    · have h4' : ¬ (4096 : Int) < (cs.length : Int) := by omega
      have hd4 : Hid ((true && decide (cs.length ≤ 4096) && cs.all (cellB dt)) = cs.all (cellB dt)) := by show (_ : Bool) = _; simp [h4]
      rw [hd4.out]
      go_enter Try.func27, Try.ntmps27
      go_wp2_with (go_at_call 46; refine (isDType_any _ _).mono ?_; rintro e w' ⟨rfl, rfl⟩; rw [Hd.out])
      generalize hW1 : w.alloc (.cells #[.int .i64 dt, .slice sa cs.length cap] 54) = W1 at x0 ⊢
      have D0 : Hid (W1.cell? ⟨w.heap.size, 0, none⟩ = some (.int .i64 dt)) := by show W1.cell? _ = _; rw [← hW1]; exact new_cell w _ 54 _ rfl 0
      clear hW1
      go_loopw [18] (fun i wr => ∃ k : Nat, i = .int .i64 k ∧ k ≤ cs.length ∧ Hid (∀ j, j < k → cellB dt (cs.getD j k0) = true) ∧ Ext W1 wr) (fun i _ => cs.length - (intOf i).toNat)
      case atStart => exact ⟨0, rfl, by omega, fun j hj => absurd hj (Nat.not_lt_zero _), Ext.refl W1⟩
      case round =>
        obtain ⟨k, rfl, hk, hv, hw⟩ := hrel
        have HW := hide hw
        clear hw
        by_cases hlt : k < cs.length
        · rcases HX.out with h0 | ⟨b, off, rfl, hrow⟩
          · rw [h0] at hlt; simp at hlt
          have xx := x0.out.trans HW.out
          have q0 := xx.box (hrow k hlt).1
          have q1 := xx.box (hrow k hlt).2.1
          have q2 := xx.box (hrow k hlt).2.2
          have dd := HW.out.box D0.out
          have hgk := hg.at k hlt
          have hk0 : (0 : Int) ≤ (k : Int) := Int.natCast_nonneg _
          have hk1 : (k : Int) < (cs.length : Int) := by omega
          have hcb : Hid (cellB dt (cs.getD k k0) = validB dt (cs.getD k k0).1 (cs.getD k k0).2.1 (cs.getD k k0).2.2) := rfl
          generalize hA : (cs.getD k k0).1 = A at q0 hgk hcb
          generalize hB : (cs.getD k k0).2.1 = B at q1 hgk hcb
          generalize hC : (cs.getD k k0).2.2 = C at q2 hgk hcb
          have HG := hide hgk
          clear hrow hgk hA hB hC xx
          have dd' := ((Ext.refl wr).alloc #[.int .i64 A, .float .f64 B, .float .f64 C] 59).box dd
          have hva := hide (iValid_any dt A B C HG.out.1 HG.out.2.1 HG.out.2.2 (wr.alloc (.cells #[.int .i64 A, .float .f64 B, .float .f64 C] 59)))
          cases hvb : validB dt A B C with
          | true =>
            rw [hvb] at hva hcb
            go_wp2_with (go_at_call 47; refine hva.out.mono ?_; rintro e w2 ⟨rfl, x2⟩; have HW2 := hide ((HW.out.alloc #[.int .i64 A, .float .f64 B, .float .f64 C] 59).trans x2); clear x2)
            go_roundw
            · refine ⟨k + 1, by go_num, by omega, fun j hj => ?_, HW2.out⟩
              by_cases e : j = k
              · rw [e]; exact hcb.out
              · exact hv.out j (by omega)
            · simp [intOf]; omega
          | false =>
            rw [hvb] at hva hcb
            go_wp2_with (go_at_call 47; refine hva.out.mono ?_; rintro e w2 ⟨rfl, x2⟩; have HW2 := hide ((HW.out.alloc #[.int .i64 A, .float .f64 B, .float .f64 C] 59).trans x2); clear x2)
            go_ret
            rw [all_no k0 hlt hcb.out]
            exact ⟨rfl, x0.out.trans HW2.out⟩
        · have hkk : k = cs.length := by omega
          subst hkk
          go_wp2
          go_ret
          rw [all_yes k0 hv.out]
          exact ⟨rfl, x0.out.trans HW.out⟩
    · have h4' : (4096 : Int) < (cs.length : Int) := by omega
      have hd4 : Hid ((true && decide (cs.length ≤ 4096) && cs.all (cellB dt)) = false) := by show (_ : Bool) = _; simp [h4]
      rw [hd4.out]
      go_enter Try.func27, Try.ntmps27
      go_wp2_with (go_at_call 46; refine (isDType_any _ _).mono ?_; rintro e w' ⟨rfl, rfl⟩; rw [Hd.out])
      go_ret
      exact ⟨rfl, x0.out⟩

set_option maxRecDepth 100000 in
set_option maxHeartbeats 1000000 in
theorem iVH_any {w : World} {v : Value} {ss : List St} (h : SV w v ss) (hg : SG ss) (hl : SL ss 1048576) :
    Calls Try.prog 9 #[.agg #[v]] w fun e w' => e = .returned (.bool (vHeap ss)) ∧ Ext w w' := by
  unfold vHeap
  obtain ⟨sa, cap, rfl, hx⟩ := h
  have x0 : Hid (Ext w (w.alloc (.cells #[.slice sa ss.length cap] 29))) := (Ext.refl w).alloc _ _
  have HX := hide hx
  have hl1 := hl.1
  clear hx
  by_cases h4 : ss.length ≤ 64
  · have h4' : ¬ (64 : Int) < (ss.length : Int) := by omega
    have hd4 : Hid ((decide (ss.length ≤ 64) && ss.all vStore) = ss.all vStore) := by show (_ : Bool) = _; simp [h4]
    rw [hd4.out]
    go_enter Try.func9, Try.ntmps9
    go_wp2_with fail
    generalize hW1 : w.alloc (.cells #[.slice sa ss.length cap] 29) = W1 at x0 ⊢
    clear hW1
    go_loopw [12] (fun i wr => ∃ k : Nat, i = .int .i64 k ∧ k ≤ ss.length ∧ Hid (∀ j, j < k → vStore (ss.getD j s0) = true) ∧ Ext w wr) (fun i _ => ss.length - (intOf i).toNat)
    case atStart => exact ⟨0, rfl, by omega, fun j hj => absurd hj (Nat.not_lt_zero _), x0.out⟩
    case round =>
      obtain ⟨k, rfl, hk, hv, hw⟩ := hrel
      have HW := hide hw
      clear hw
      by_cases hlt : k < ss.length
      · rcases HX.out with h0 | ⟨b, off, rfl, hrow⟩
        · rw [h0] at hlt; simp at hlt
        obtain ⟨q0, u, q1, c1⟩ := (hrow.keep HW.out.bl) k hlt
        have hgk := hg.at k hlt
        have hlk := hl.at k hlt
        have hk0 : (0 : Int) ≤ (k : Int) := Int.natCast_nonneg _
        have hk1 : (k : Int) < (ss.length : Int) := by omega
        have C1 := hide c1
        have hcb : Hid (vStore (ss.getD k s0) = vStore ((ss.getD k s0).1, (ss.getD k s0).2)) := rfl
        generalize (ss.getD k s0).1 = A at q0 hcb
        generalize (ss.getD k s0).2 = cs at C1 hgk hlk hcb
        clear hrow c1
        obtain ⟨s1, d1, rfl, _⟩ := C1.out
        have xa : Ext wr (wr.alloc (.cells #[.int .i64 A, .slice s1 cs.length d1] 54)) := (Ext.refl wr).alloc _ _
        have hva := hide (validStore_any A (C1.out.keep xa.bl) hgk hlk)
        have HWa := hide (HW.out.trans xa)
        clear xa
        cases hvb : vStore (A, cs) with
        | true =>
          rw [hvb] at hva hcb
          go_wp2_with (go_at_call 27; refine hva.out.mono ?_; rintro e w2 ⟨rfl, x2⟩; have HW2 := hide (HWa.out.trans x2); clear x2)
          go_roundw
          · refine ⟨k + 1, by go_num, by omega, fun j hj => ?_, HW2.out⟩
            by_cases e : j = k
            · rw [e]; exact hcb.out
            · exact hv.out j (by omega)
          · simp [intOf]; omega
        | false =>
          rw [hvb] at hva hcb
          go_wp2_with (go_at_call 27; refine hva.out.mono ?_; rintro e w2 ⟨rfl, x2⟩; have HW2 := hide (HWa.out.trans x2); clear x2)
          go_ret
          rw [all_no s0 hlt hcb.out]
          exact ⟨rfl, HW2.out⟩
      · have hkk : k = ss.length := by omega
        subst hkk
        go_wp2
        go_ret
        rw [all_yes s0 hv.out]
        exact ⟨rfl, HW.out⟩
  · have h4' : (64 : Int) < (ss.length : Int) := by omega
    have hd4 : Hid ((decide (ss.length ≤ 64) && ss.all vStore) = false) := by show (_ : Bool) = _; simp [h4]
    rw [hd4.out]
    go_enter Try.func9, Try.ntmps9
    go_wp2
    go_ret
    exact ⟨rfl, x0.out⟩

set_option maxRecDepth 100000 in
set_option maxHeartbeats 1000000 in
theorem sVH_any {w : World} {v : Value} {ss : List St} (h : SV w v ss) (hg : SG ss) (hl : SL ss 1048576) :
    Calls Try.prog 7 #[.agg #[v]] w fun e w' => e = .returned (.bool (vHeap ss)) ∧ Ext w w' := by
  unfold vHeap
  obtain ⟨sa, cap, rfl, hx⟩ := h
  have x0 : Hid (Ext w (w.alloc (.cells #[.slice sa ss.length cap] 29))) := (Ext.refl w).alloc _ _
  have HX := hide hx
  have hl1 := hl.1
  clear hx
  by_cases h4 : ss.length ≤ 64
  · have h4' : ¬ (64 : Int) < (ss.length : Int) := by omega
    have hd4 : Hid ((decide (ss.length ≤ 64) && ss.all vStore) = ss.all vStore) := by show (_ : Bool) = _; simp [h4]
    rw [hd4.out]
    go_enter Try.func7, Try.ntmps7
    go_wp2_with fail
    generalize hW1 : w.alloc (.cells #[.slice sa ss.length cap] 29) = W1 at x0 ⊢
    have D0 : Hid (W1.cell? ⟨w.heap.size, 0, none⟩ = some (.slice sa ss.length cap)) := by show W1.cell? _ = _; rw [← hW1]; exact new_cell w _ 29 _ rfl 0
    clear hW1
    go_loopw [3] (fun i wr => ∃ k : Nat, i = .int .i64 k ∧ k ≤ ss.length ∧ Hid (∀ j, j < k → vStore (ss.getD j s0) = true) ∧ Ext W1 wr) (fun i _ => ss.length - (intOf i).toNat)
    case atStart => exact ⟨0, rfl, by omega, fun j hj => absurd hj (Nat.not_lt_zero _), Ext.refl W1⟩
    case round =>
      obtain ⟨k, rfl, hk, hv, hw⟩ := hrel
      have HW := hide hw
      clear hw
      have dd := HW.out.box D0.out
      by_cases hlt : k < ss.length
      · rcases HX.out with h0 | ⟨b, off, rfl, hrow⟩
        · rw [h0] at hlt; simp at hlt
        obtain ⟨q0, u, q1, c1⟩ := (hrow.keep (x0.out.trans HW.out).bl) k hlt
        have hgk := hg.at k hlt
        have hlk := hl.at k hlt
        have hk0 : (0 : Int) ≤ (k : Int) := Int.natCast_nonneg _
        have hk1 : (k : Int) < (ss.length : Int) := by omega
        have C1 := hide c1
        have hcb : Hid (vStore (ss.getD k s0) = vStore ((ss.getD k s0).1, (ss.getD k s0).2)) := rfl
        generalize (ss.getD k s0).1 = A at q0 hcb
        generalize (ss.getD k s0).2 = cs at C1 hgk hlk hcb
        clear hrow c1
        obtain ⟨s1, d1, rfl, hcr⟩ := C1.out
        have HCR := hide hcr
        clear hcr
        have xa : Ext wr (wr.alloc (.cells #[.int .i64 A, .slice s1 cs.length d1] 54)) := (Ext.refl wr).alloc _ _
        have n0 := fun j => new_cell wr #[.int .i64 A, .slice s1 cs.length d1] 54 wr.heap.size rfl j
        have HN0 := hide (n0 0)
        have HN1 := hide (n0 1)
        have HWa := hide (HW.out.trans xa)
        have HXa := hide xa
        clear xa n0
        have hcb2 : Hid (vStore (ss.getD k s0) = (isDtB A && decide (cs.length ≤ 4096) && cs.all (cellB A))) := hcb.out.trans (vStore_eq A cs)
        clear hcb
        cases hd : isDtB A with
        | false =>
          have Hd := hide hd
          have hno : Hid (vStore (ss.getD k s0) = false) := by show vStore _ = false; rw [hcb2.out, hd]; rfl
          clear hd
          go_wp2_with (go_at_call 24; refine (l1IsDType_any _ _).mono ?_; rintro e w' ⟨rfl, rfl⟩; rw [Hd.out])
          go_ret
          rw [all_no s0 hlt hno.out]
          exact ⟨rfl, x0.out.trans HWa.out⟩
        | true =>
          have Hd := hide hd
          rw [hd] at hcb2
          clear hd
          by_cases h5 : cs.length ≤ 4096
          · have h5' : ¬ (4096 : Int) < (cs.length : Int) := by omega
            have hc3 : Hid (vStore (ss.getD k s0) = cs.all (cellB A)) := by show vStore _ = _; rw [hcb2.out]; simp [h5]
            clear hcb2
            go_wp2_with (go_at_call 24; refine (l1IsDType_any _ _).mono ?_; rintro e w' ⟨rfl, rfl⟩; rw [Hd.out])
            generalize hWa : wr.alloc (.cells #[.int .i64 A, .slice s1 cs.length d1] 54) = Wa at HN0 HN1 HWa HXa ⊢
            generalize wr.heap.size = B0 at HN0 HN1 ⊢
            clear hWa
            go_loopw [5] (fun i wr2 => ∃ m : Nat, i = .int .i64 m ∧ m ≤ cs.length ∧ Hid (∀ j, j < m → cellB A (cs.getD j k0) = true) ∧ Ext Wa wr2) (fun i _ => cs.length - (intOf i).toNat)
            case atStart => exact ⟨0, rfl, by omega, fun j hj => absurd hj (Nat.not_lt_zero _), Ext.refl Wa⟩
            case round =>
              obtain ⟨m, rfl, hm, hv2, hw2⟩ := hrel
              have HW2 := hide hw2
              clear hw2
              have e0 := HW2.out.box HN0.out
              have e1 := HW2.out.box HN1.out
              by_cases hml : m < cs.length
              · rcases HCR.out with h0 | ⟨bc, oc, rfl, hrow⟩
                · rw [h0] at hml; simp at hml
                have xx := HXa.out.trans HW2.out
                have q0 := xx.box (hrow m hml).1
                have q1 := xx.box (hrow m hml).2.1
                have q2 := xx.box (hrow m hml).2.2
                have hgm := hgk.at m hml
                have hm0 : (0 : Int) ≤ (m : Int) := Int.natCast_nonneg _
                have hm1 : (m : Int) < (cs.length : Int) := by omega
                have hcb : Hid (cellB A (cs.getD m k0) = validB A (cs.getD m k0).1 (cs.getD m k0).2.1 (cs.getD m k0).2.2) := rfl
                generalize (cs.getD m k0).1 = X at q0 hgm hcb
                generalize (cs.getD m k0).2.1 = Y at q1 hgm hcb
                generalize (cs.getD m k0).2.2 = Z at q2 hgm hcb
                have HG := hide hgm
                clear hrow hgm xx
                have hva := hide (fun W => sValid_any A X Y Z HG.out.2.1 HG.out.2.2 W)
                cases hvb : validB A X Y Z with
                | true =>
                  rw [hvb] at hva hcb
                  have SA : Hid ((fun w' => w'.cell? ⟨B0, 0, none⟩ = some (.int .i64 A) ∧ w'.cell? ⟨B0, 1, none⟩ = some (.slice (some ⟨bc, oc, none⟩) cs.length d1) ∧ w'.cell? ⟨bc, oc + m * 3, none⟩ = some (.int .i64 X) ∧ w'.cell? ⟨bc, oc + m * 3 + 1, none⟩ = some (.float .f64 Y) ∧ w'.cell? ⟨bc, oc + m * 3 + 2, none⟩ = some (.float .f64 Z)) wr.drew) := ⟨e0, e1, q0, q1, q2⟩
                  go_wp2_with fail
                  go_region_held3 (fun w' => w'.cell? ⟨B0, 0, none⟩ = some (.int .i64 A) ∧ w'.cell? ⟨B0, 1, none⟩ = some (.slice (some ⟨bc, oc, none⟩) cs.length d1) ∧ w'.cell? ⟨bc, oc + m * 3, none⟩ = some (.int .i64 X) ∧ w'.cell? ⟨bc, oc + m * 3 + 1, none⟩ = some (.float .f64 Y) ∧ w'.cell? ⟨bc, oc + m * 3 + 2, none⟩ = some (.float .f64 Z)) (first | with_reducible exact SA.out | with_reducible exact SB'.out | exact SA.out | exact SB'.out | fail) (first | (go_at_call 25; refine (hva.out _).mono ?_; rintro e w3 ⟨rfl, x3⟩; have HW3 := hide (HW2.out.drew.trans x3); have SB' : Hid ((fun w' => w'.cell? ⟨B0, 0, none⟩ = some (.int .i64 A) ∧ w'.cell? ⟨B0, 1, none⟩ = some (.slice (some ⟨bc, oc, none⟩) cs.length d1) ∧ w'.cell? ⟨bc, oc + m * 3, none⟩ = some (.int .i64 X) ∧ w'.cell? ⟨bc, oc + m * 3 + 1, none⟩ = some (.float .f64 Y) ∧ w'.cell? ⟨bc, oc + m * 3 + 2, none⟩ = some (.float .f64 Z)) w3) := ⟨x3.box e0, x3.box e1, x3.box q0, x3.box q1, x3.box q2⟩; clear x3) | fail)
                  go_wp2
                  go_roundw
                  · refine ⟨m + 1, by go_num, by omega, fun j hj => ?_, HW3.out⟩
                    by_cases e : j = m
                    · rw [e]; exact hcb.out
                    · exact hv2.out j (by omega)
                  · simp [intOf]; omega
                | false =>
                  rw [hvb] at hva hcb
                  have hno : Hid (vStore (ss.getD k s0) = false) := by show vStore _ = _; rw [hc3.out]; exact all_no k0 hml hcb.out
                  have SA : Hid ((fun w' => w'.cell? ⟨B0, 0, none⟩ = some (.int .i64 A) ∧ w'.cell? ⟨B0, 1, none⟩ = some (.slice (some ⟨bc, oc, none⟩) cs.length d1) ∧ w'.cell? ⟨bc, oc + m * 3, none⟩ = some (.int .i64 X) ∧ w'.cell? ⟨bc, oc + m * 3 + 1, none⟩ = some (.float .f64 Y) ∧ w'.cell? ⟨bc, oc + m * 3 + 2, none⟩ = some (.float .f64 Z)) wr.drew) := ⟨e0, e1, q0, q1, q2⟩
                  go_wp2_with fail
                  go_region_held3 (fun w' => w'.cell? ⟨B0, 0, none⟩ = some (.int .i64 A) ∧ w'.cell? ⟨B0, 1, none⟩ = some (.slice (some ⟨bc, oc, none⟩) cs.length d1) ∧ w'.cell? ⟨bc, oc + m * 3, none⟩ = some (.int .i64 X) ∧ w'.cell? ⟨bc, oc + m * 3 + 1, none⟩ = some (.float .f64 Y) ∧ w'.cell? ⟨bc, oc + m * 3 + 2, none⟩ = some (.float .f64 Z)) (first | with_reducible exact SA.out | with_reducible exact SB'.out | exact SA.out | exact SB'.out | fail) (first | (go_at_call 25; refine (hva.out _).mono ?_; rintro e w3 ⟨rfl, x3⟩; have HW3 := hide (HW2.out.drew.trans x3); have SB' : Hid ((fun w' => w'.cell? ⟨B0, 0, none⟩ = some (.int .i64 A) ∧ w'.cell? ⟨B0, 1, none⟩ = some (.slice (some ⟨bc, oc, none⟩) cs.length d1) ∧ w'.cell? ⟨bc, oc + m * 3, none⟩ = some (.int .i64 X) ∧ w'.cell? ⟨bc, oc + m * 3 + 1, none⟩ = some (.float .f64 Y) ∧ w'.cell? ⟨bc, oc + m * 3 + 2, none⟩ = some (.float .f64 Z)) w3) := ⟨x3.box e0, x3.box e1, x3.box q0, x3.box q1, x3.box q2⟩; clear x3) | fail)
                  go_wp2
                  go_ret
                  rw [all_no s0 hlt hno.out]
                  exact ⟨rfl, (x0.out.trans HWa.out).trans HW3.out⟩
              · have hmm : m = cs.length := by omega
                subst hmm
                have hyes : Hid (vStore (ss.getD k s0) = true) := by show vStore _ = _; rw [hc3.out]; exact all_yes k0 hv2.out
                go_wp2
                go_roundw
                · refine ⟨k + 1, by go_num, by omega, fun j hj => ?_, HWa.out.trans HW2.out⟩
                  by_cases e : j = k
                  · rw [e]; exact hyes.out
                  · exact hv.out j (by omega)
                · simp [intOf]; omega
          · have h5' : (4096 : Int) < (cs.length : Int) := by omega
            have hno : Hid (vStore (ss.getD k s0) = false) := by show vStore _ = _; rw [hcb2.out]; simp [h5]
            clear hcb2
            go_wp2_with (go_at_call 24; refine (l1IsDType_any _ _).mono ?_; rintro e w' ⟨rfl, rfl⟩; rw [Hd.out])
            go_ret
            rw [all_no s0 hlt hno.out]
            exact ⟨rfl, x0.out.trans HWa.out⟩
      · have hkk : k = ss.length := by omega
        subst hkk
        go_wp2
        go_ret
        rw [all_yes s0 hv.out]
        exact ⟨rfl, x0.out.trans HW.out⟩
  · have h4' : (64 : Int) < (ss.length : Int) := by omega
    have hd4 : Hid ((decide (ss.length ≤ 64) && ss.all vStore) = false) := by show (_ : Bool) = _; simp [h4]
    rw [hd4.out]
    go_enter Try.func7, Try.ntmps7
    go_wp2
    go_ret
    exact ⟨rfl, x0.out⟩
end Go.Proofs.Ytbkdfhlbjaiahaa
