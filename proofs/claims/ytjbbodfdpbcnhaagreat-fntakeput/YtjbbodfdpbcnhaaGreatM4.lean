import Derived.Test.YtjbbodfdpbcnhaaGreatM3
import Derived.Test.YtjbbodfdpbcnhaaGreatSpecVV
import Derived.Test.YtjbbodfdpbcnhaaGreatM1
import Derived.Maps.AppendAt
import Derived.RangeFuncNested
import Derived.RangeFuncBound
import Derived.RangeFuncCalls
import Derived.RangeFuncLeaves
import Derived.Shelf.Abstract
import Derived.Shelf.RegionOpen
import Derived.WalkKit
import Derived.OwnWalkIn
import Derived.TacticsInMore
import Derived.LoopNIn
import Derived.LoopIn
import Derived.Deep.RegionHeld3
import Derived.Deep.AppendLies
set_option linter.unusedSimpArgs false
set_option linter.unusedVariables false
set_option maxRecDepth 100000
set_option maxHeartbeats 8000000
namespace Go.Proofs.YtjbbodfdpbcnhaaGreat
open Go.Value renaming int → O, slice → σ, pointer → π, agg → γ
open Go.IntKind renaming i64 → ι
open Go.Obj renaming cells → χ
section
open Go.ChangeShapes Go.RowKit
theorem zk18 {w w' : World} {L : List Int} (h : L = []) (sa : Option Addr) (cap : Nat) (hB : Below w.heap.size w w') : ListOk w L (.returned (σ sa 0 cap)) w' := by
 subst h
 exact ⟨sa, cap, rfl, Or.inl rfl, hB⟩
theorem ListOk.from {w w1 w' : World} {L : List Int} {e : Ending} (hB : Below w.heap.size w w1) (h : ListOk w1 L e w') : ListOk w L e w' := by
 obtain ⟨sa, cap, h1, h2, h3⟩ := h
 refine ⟨sa, cap, h1, ?_, hB.trans (h3.mono hB.size)⟩
 rcases h2 with h2 | ⟨g, h4, h5, h6⟩
 ·exact Or.inl h2
 ·exact Or.inr ⟨g, h4, Nat.le_trans hB.size h5, h6⟩
theorem za2 {w : World} {vS vT : Value} {xs ss : List Int} (hS : Ints w vS xs) (hT : Ints w vT ss) (off : Int) (hv : ValidV xs ss off) :
  Calls Tryz.prog 21 #[γ #[vS, vT, O ι off]] w fun e w' => ListOk w (offsL xs ss off) e w' := by
 obtain ⟨hg, hl, ho, hin, _⟩ := hv
 have x0 : Ext w (w.alloc (χ #[vS, vT, O ι off] 28)) := (Ext.refl w).alloc _ _
 have X0 := hide x0.bl
 have HS := hide (hS.ext x0)
 have HT := hide (hT.ext x0)
 have n1 := fun j => zg w #[vS, vT, O ι off] 28 w.heap.size rfl j
 have k0 := n1 0
 have k1 := n1 1
 have k2 := n1 2
 clear n1 x0
 obtain ⟨sa, cap, rfl, _⟩ := hS
 obtain ⟨ta, dap, rfl, _⟩ := hT
 have hcn : cntL xs = prod xs := if_pos hg
 have hx4 := hg.1
 have hpb := zh2 xs xs.length hg.1 (Nat.le_refl _) hg.2.1
 rw [List.take_length] at hpb
 have hOz : Hid (prod xs = 0 → offsL xs ss off = []) := fun h => by unfold offsL; rw [if_pos h]
 have hpl : Hid (prod xs ≠ 0 → ∀ w, Ints w (σ sa xs.length cap) xs → Ints w (σ ta ss.length dap) ss → Calls Tryz.prog 58 #[γ #[σ sa xs.length cap, σ ta ss.length dap, O ι off], O ι 0, O ι off] w fun e w' => ListOk w (offsL xs ss off) e w') := fun hz w h1 h2 => by
  have hst : ∀ s ∈ ss, -4096 ≤ s ∧ s ≤ 4096 := fun s hs => by
   obtain ⟨j, hj, rfl⟩ := zl3 hs
   exact hin j hj
  have hpln : plen xs ≤ 4096 := by
   have h1 := zc1 (fun m hm => (zx hg m hm).1)
   have h2 := hg.2.2
   omega
  have key := zl8 xs ss hl.symm hx4 (zh5 hg hz) hst off _ _ xs.length 0 (by omega) w off h1 h2 (by rw [List.drop_zero]; exact hpln) (by omega)
  rw [List.drop_zero, List.drop_zero] at key
  unfold offsL
  rw [if_neg hz]
  exact key
 have Hcnt := hide (zj1 HS.out (by omega))
 rw [hcn] at Hcnt
 have Hg := hide hg
 clear hg hcn hin hl
 go_enter Tryz.func21, Tryz.ntmps21
 go_wp2_with fail
 generalize hW0 : w.alloc (χ #[σ sa xs.length cap, σ ta ss.length dap, O ι off] 28) = W0 at X0 HS HT k0 k1 k2 Hcnt ⊢
 clear hW0
 refine Hcnt.out.mono ?_
 clear Hcnt
 rintro e w' ⟨rfl, rfl⟩
 generalize prod xs = P at *
 by_cases hz : P = 0
 ·have HO := hide (hOz.out hz)
  subst hz
  clear hpl hOz
  go_wp2
  go_ret
  exact zk18 HO.out _ _ (by first | exact X0.out | exact X0.out.alloc X0.out.size _)
 ·have HP := hide (hpl.out hz _ HS.out HT.out)
  have hPn : (P == 0) = false := by simp [hz]
  clear hpl hOz
  go_wp2_with (go_at_call 58; refine HP.out.mono ?_; intro e w2 hok; obtain ⟨sa2, cap2, rfl, hok2⟩ := hok)
  go_ret
  exact ListOk.from X0.out ⟨sa2, cap2, rfl, hok2⟩
def offsA (xs ss : List Int) (off : Int) : List Int := if ValidV xs ss off then offsL xs ss off else []
end
section
open Go.RowKit FL
theorem zq4 (f : Nat) (h : B64 f) : sameB f 0 = pzB f := by
 unfold B64 at h
 unfold sameB pzB
 rw [zz13]
 cases e : nanD f
 ·simp
 ·have := (zk3 f).1 e
  have h0 : f ≠ 0 := by omega
  simp [h0]
theorem zr4 (f : Nat) : sameB f f = true := by
 unfold sameB; cases nanD f <;> simp
theorem zc12 (f r : Nat) (hf : B64 f) (h : SingleR f r) : sameB r f = sngB f := by
 cases hs : sngB f
 ·have h1 := zd10 hf h hs
  unfold sameB
  rw [h1.1]
  cases hr : nanD r
  ·have : r ≠ f := fun e => by
    have h2 := h1.2
    rw [e, zn3, h1.1] at h2; cases h2
   simp [this]
  ·simp
 ·rcases zf8 h hs with ⟨h1, h2⟩ | ⟨h1, h2⟩
  ·unfold sameB; rw [h1, h2]; rfl
  ·rw [h2]; exact zr4 f
theorem zk15 {f r : Nat} (h : SingleR f r) : B64 r := h.1
theorem zs3 : B64 0 := by unfold B64; omega
theorem zr14 (dt i : Int) (f g : Nat) (h : 1 ≤ dt ∧ dt ≤ 6) (hf : B64 f) (hg : B64 g) (w : World) :
  Calls Tryz.prog 56 #[O ι dt, γ #[O ι i, .float .f64 f, .float .f64 g]] w fun e w' => e = .returned (.bool (rngB dt i && pzB f && pzB g)) ∧ Ext w w' := by
 have hd : isDtB dt = true := by unfold isDtB; simp; omega
 have hb0 := zs3
 have sf := zq4 f hf
 have sg := zq4 g hg
 have hk : skindL dt = 0 ∨ skindL dt = 1 := by unfold skindL; omega
 have hr : rngB dt i = (decide (lowL dt ≤ i) && decide (i ≤ highL dt)) := by
  unfold rngB
  rw [Bool.eq_iff_iff]; simp
 rw [hr]
 clear hr h
 rcases hk with hk | hk
 all_goals
  by_cases h0 : lowL dt ≤ i <;> by_cases h1 : i ≤ highL dt <;> cases h2 : pzB f
  all_goals
   rw [h2] at sf
   first | rw [decide_eq_true h0] | rw [decide_eq_false h0]
   first | rw [decide_eq_true h1] | rw [decide_eq_false h1]
   first | have d0 : decide (lowL dt ≤ i) = true := decide_eq_true h0 | (have d0 : decide (lowL dt ≤ i) = false := decide_eq_false h0)
   first | have d1 : decide (i ≤ highL dt) = true := decide_eq_true h1 | (have d1 : decide (i ≤ highL dt) = false := decide_eq_false h1)
   go_enter Tryz.func56, Tryz.ntmps56
   go_wp2_with (first | (go_at_call 55; refine (zk _ _).mono ?_; rintro e w' ⟨rfl, rfl⟩) | (go_at_call 71; refine (zo _ _).mono ?_; rintro e w' ⟨rfl, rfl⟩))
   go_quiet (first | (go_at_call 82; exact Calls.quiet_of_same (zw10 _ _)) | (go_at_call 83; exact Calls.quiet_of_same (zm2 _ _)) | (go_at_call 84; exact Calls.quiet_of_same (zb2 _ _ (by assumption) (by assumption) _)))
   go_wp2
   go_ret
   exact ⟨rfl, by repeat (first | exact Ext.refl _ | apply Ext.drewN | apply Ext.drew | apply Ext.alloc)⟩
theorem zs14 (i : Int) (f g : Nat) (hf : B64 f) (hg : B64 g) (w : World) :
  Calls Tryz.prog 56 #[O ι 8, γ #[O ι i, .float .f64 f, .float .f64 g]] w fun e w' => e = .returned (.bool (i == 0 && pzB g)) ∧ Ext w w' := by
 have hd : isDtB 8 = true := by decide
 have hk : skindL 8 = 2 := by decide
 have hb0 := zs3
 have sg := zq4 g hg
 have sf := zr4 f
 cases h0 : (i == 0) <;> cases h2 : pzB g <;> rw [h2] at sg
 all_goals
  go_enter Tryz.func56, Tryz.ntmps56
  go_wp2_with (first | (go_at_call 55; refine (zk _ _).mono ?_; rintro e w' ⟨rfl, rfl⟩) | (go_at_call 71; refine (zo _ _).mono ?_; rintro e w' ⟨rfl, rfl⟩))
  go_quiet (first | (go_at_call 74; exact Calls.quiet_of_same (zb14 _ (by decide) _ _)) | (go_at_call 84; exact Calls.quiet_of_same (zb2 _ _ (by assumption) (by assumption) _)))
  go_wp2
  go_ret
  exact ⟨rfl, by repeat (first | exact Ext.refl _ | apply Ext.drewN | apply Ext.drew | apply Ext.alloc)⟩
theorem zt14 (i : Int) (f g : Nat) (hf : B64 f) (hg : B64 g) (w : World) :
  Calls Tryz.prog 56 #[O ι 7, γ #[O ι i, .float .f64 f, .float .f64 g]] w fun e w' => e = .returned (.bool (i == 0 && pzB g && sngB f)) ∧ Ext w w' := by
 have hd : isDtB 7 = true := by decide
 have hk : skindL 7 = 2 := by decide
 have hb0 := zs3
 have sg := zq4 g hg
 cases h0 : (i == 0) <;> cases h2 : pzB g <;> rw [h2] at sg
 case true.true =>
  go_enter Tryz.func56, Tryz.ntmps56
  go_wp2_with (first | (go_at_call 55; refine (zk _ _).mono ?_; rintro e w' ⟨rfl, rfl⟩) | (go_at_call 71; refine (zo _ _).mono ?_; rintro e w' ⟨rfl, rfl⟩))
  go_region_with (first | (go_at_call 74; refine (zc14 _ ?_ _).mono ?_; assumption; rintro e w' ⟨r, n, rfl, hr, rfl⟩; have hrb := zk15 hr; have sr := zc12 _ _ hf hr) | (go_at_call 84; refine (zb2 _ _ ?_ ?_ _).mono ?_; assumption; assumption; rintro e w' ⟨rfl, rfl⟩))
  all_goals go_wp2
  all_goals go_ret
  all_goals go_light
  all_goals exact ⟨zn (by simp_all), by repeat (first | exact Ext.refl _ | apply Ext.drewN | apply Ext.drew | apply Ext.alloc)⟩
 all_goals
  go_enter Tryz.func56, Tryz.ntmps56
  go_wp2_with (first | (go_at_call 55; refine (zk _ _).mono ?_; rintro e w' ⟨rfl, rfl⟩) | (go_at_call 71; refine (zo _ _).mono ?_; rintro e w' ⟨rfl, rfl⟩))
  go_quiet (first | (go_at_call 84; exact Calls.quiet_of_same (zb2 _ _ (by assumption) (by assumption) _)))
  go_wp2
  go_ret
  exact ⟨rfl, by repeat (first | exact Ext.refl _ | apply Ext.drewN | apply Ext.drew | apply Ext.alloc)⟩
theorem zd12 (i : Int) (f g : Nat) (w : World) :
  Calls Tryz.prog 56 #[O ι 9, γ #[O ι i, .float .f64 f, .float .f64 g]] w fun e w' => e = .returned (.bool (i == 0)) ∧ Ext w w' := by
 have hd : isDtB 9 = true := by decide
 have hk : skindL 9 = 3 := by decide
 go_enter Tryz.func56, Tryz.ntmps56
 go_wp2_with (first | (go_at_call 55; refine (zk _ _).mono ?_; rintro e w' ⟨rfl, rfl⟩) | (go_at_call 71; refine (zo _ _).mono ?_; rintro e w' ⟨rfl, rfl⟩))
 go_ret
 exact ⟨rfl, by repeat (first | exact Ext.refl _ | apply Ext.drewN | apply Ext.drew | apply Ext.alloc)⟩
theorem zv15 (dt i : Int) (f g : Nat) (h : ¬ (1 ≤ dt ∧ dt ≤ 9)) (w : World) :
  Calls Tryz.prog 56 #[O ι dt, γ #[O ι i, .float .f64 f, .float .f64 g]] w fun e w' => e = .returned (.bool false) ∧ Ext w w' := by
 have hd : isDtB dt = false := by unfold isDtB; simpa using h
 clear h
 go_enter Tryz.func56, Tryz.ntmps56
 go_wp2_with (first | (go_at_call 55; refine (zk _ _).mono ?_; rintro e w' ⟨rfl, rfl⟩) | (go_at_call 71; refine (zo _ _).mono ?_; rintro e w' ⟨rfl, rfl⟩))
 go_ret
 exact ⟨rfl, by repeat (first | exact Ext.refl _ | apply Ext.drewN | apply Ext.drew | apply Ext.alloc)⟩
theorem zf1 (dt i : Int) (f g : Nat) (hf : B64 f) (hg : B64 g) (w : World) :
  Calls Tryz.prog 56 #[O ι dt, γ #[O ι i, .float .f64 f, .float .f64 g]] w fun e w' => e = .returned (.bool (validB dt i f g)) ∧ Ext w w' := by
 by_cases h2 : 1 ≤ dt ∧ dt ≤ 6
 ·have e : validB dt i f g = (rngB dt i && pzB f && pzB g) := by unfold validB; rw [if_pos (by omega)]
  rw [e]; exact zr14 dt i f g h2 hf hg w
 by_cases h7 : dt = 7
 ·subst h7; exact zt14 i f g hf hg w
 by_cases h8 : dt = 8
 ·subst h8; exact zs14 i f g hf hg w
 by_cases h9 : dt = 9
 ·subst h9; exact zd12 i f g w
 have e : validB dt i f g = false := by unfold validB; rw [if_neg (by omega), if_neg h7, if_neg h8, if_neg h9]
 rw [e]; exact zv15 dt i f g (by omega) w
end
section
open Go.ChangeShapes Go.RowKit FL
def cellB (dt : Int) (c : C3) : Bool := validB dt c.1 c.2.1 c.2.2
theorem zc10 (dt : Int) (cs : List C3) : vStore (dt, cs) = (isDtB dt && decide (cs.length ≤ 4096) && cs.all (cellB dt)) := rfl
theorem zv7 {w : World} {v : Value} {cs : List C3} (dt : Int) (h : CV w v cs) (hg : CG cs) (hl : cs.length ≤ 1048576) :
  Calls Tryz.prog 85 #[γ #[O ι dt, v]] w fun e w' => e = .returned (.bool (vStore (dt, cs))) ∧ Ext w w' := by
 rw [zc10]
 obtain ⟨sa, cap, rfl, hx⟩ := h
 have x0 : Hid (Ext w (w.alloc (χ #[O ι dt, σ sa cs.length cap] 41))) := (Ext.refl w).alloc _ _
 have HX := hide hx
 clear hx
 cases hd : isDtB dt with
 | false =>
  have Hd := hide hd
  clear hd
  go_enter Tryz.func85, Tryz.ntmps85
  go_wp2_with (go_at_call 87; refine (zd2 _ _).mono ?_; rintro e w' ⟨rfl, rfl⟩; rw [Hd.out])
  go_ret
  exact ⟨rfl, x0.out⟩
 | true =>
  have Hd := hide hd
  clear hd
  by_cases h4 : cs.length ≤ 4096
  ·have h4' : ¬ (4096 : Int) < (cs.length : Int) := by omega
   have hd4 : Hid ((true && decide (cs.length ≤ 4096) && cs.all (cellB dt)) = cs.all (cellB dt)) := by show (_ : Bool) = _; simp [h4]
   rw [hd4.out]
   go_enter Tryz.func85, Tryz.ntmps85
   go_wp2_with (go_at_call 87; refine (zd2 _ _).mono ?_; rintro e w' ⟨rfl, rfl⟩; rw [Hd.out])
   generalize hW1 : w.alloc (χ #[O ι dt, σ sa cs.length cap] 41) = W1 at x0 ⊢
   have D0 : Hid (W1.cell? ⟨w.heap.size, 0, none⟩ = some (O ι dt)) := by show W1.cell? _ = _; rw [← hW1]; exact zg w _ 41 _ rfl 0
   clear hW1
   go_loopw [18] (fun i wr => ∃ k : Nat, i = O ι k ∧ k ≤ cs.length ∧ Hid (∀ j, j < k → cellB dt (cs.getD j k0) = true) ∧ Ext W1 wr) (fun i _ => cs.length - (intOf i).toNat)
   case atStart => exact ⟨0, rfl, by omega, fun j hj => absurd hj (Nat.not_lt_zero _), Ext.refl W1⟩
   case round =>
    obtain ⟨k, rfl, hk, hv, hw⟩ := hrel
    have HW := hide hw
    clear hw
    by_cases hlt : k < cs.length
    ·rcases HX.out with h0 | ⟨b, off, rfl, hrow⟩
     ·rw [h0] at hlt; simp at hlt
     have xx := x0.out.trans HW.out
     have q0 := xx.box (hrow k hlt).1
     have q1 := xx.box (hrow k hlt).2.1
     have q2 := xx.box (hrow k hlt).2.2
     have dd := HW.out.box D0.out
     have hgk := hg.at k hlt
     have hk0 : (0 : Int) ≤ (k : Int) := Int.natCast_nonneg _
     have hk1 : (k : Int) < (cs.length : Int) := by omega
     have hcb : Hid (cellB dt (cs.getD k k0) = validB dt (cs.getD k k0).1 (cs.getD k k0).2.1 (cs.getD k k0).2.2) := rfl
     generalize hA : (cs.getD k k0).1 = A at q0 hgk hcb
     generalize hB : (cs.getD k k0).2.1 = B at q1 hgk hcb
     generalize hC : (cs.getD k k0).2.2 = C at q2 hgk hcb
     have HG := hide hgk
     clear hrow hgk hA hB hC xx
     have dd' := ((Ext.refl wr).alloc #[O ι A, .float .f64 B, .float .f64 C] 47).box dd
     have hva := hide (zt8 dt A B C HG.out.1 HG.out.2.1 HG.out.2.2 (wr.alloc (χ #[O ι A, .float .f64 B, .float .f64 C] 47)))
     cases hvb : validB dt A B C with
     | true =>
      rw [hvb] at hva hcb
      go_wp2_with (go_at_call 90; refine hva.out.mono ?_; rintro e w2 ⟨rfl, x2⟩; have HW2 := hide ((HW.out.alloc #[O ι A, .float .f64 B, .float .f64 C] 47).trans x2); clear x2)
      go_roundw
      ·refine ⟨k + 1, by go_num, by omega, fun j hj => ?_, HW2.out⟩
       by_cases e : j = k
       ·rw [e]; exact hcb.out
       ·exact hv.out j (by omega)
      ·simp [intOf]; omega
     | false =>
      rw [hvb] at hva hcb
      go_wp2_with (go_at_call 90; refine hva.out.mono ?_; rintro e w2 ⟨rfl, x2⟩; have HW2 := hide ((HW.out.alloc #[O ι A, .float .f64 B, .float .f64 C] 47).trans x2); clear x2)
      go_ret
      rw [zb9 k0 hlt hcb.out]
      exact ⟨rfl, x0.out.trans HW2.out⟩
    ·have hkk : k = cs.length := by omega
     subst hkk
     go_wp2
     go_ret
     rw [zy9 k0 hv.out]
     exact ⟨rfl, x0.out.trans HW.out⟩
  ·have h4' : (4096 : Int) < (cs.length : Int) := by omega
   have hd4 : Hid ((true && decide (cs.length ≤ 4096) && cs.all (cellB dt)) = false) := by show (_ : Bool) = _; simp [h4]
   rw [hd4.out]
   go_enter Tryz.func85, Tryz.ntmps85
   go_wp2_with (go_at_call 87; refine (zd2 _ _).mono ?_; rintro e w' ⟨rfl, rfl⟩; rw [Hd.out])
   go_ret
   exact ⟨rfl, x0.out⟩
theorem zz16 {w : World} {v : Value} {ss : List St} (h : SV w v ss) (hg : SG ss) (hl : SL ss 1048576) :
  Calls Tryz.prog 59 #[γ #[v]] w fun e w' => e = .returned (.bool (vHeap ss)) ∧ Ext w w' := by
 unfold vHeap
 obtain ⟨sa, cap, rfl, hx⟩ := h
 have x0 : Hid (Ext w (w.alloc (χ #[σ sa ss.length cap] 25))) := (Ext.refl w).alloc _ _
 have HX := hide hx
 have hl1 := hl.1
 clear hx
 by_cases h4 : ss.length ≤ 64
 ·have h4' : ¬ (64 : Int) < (ss.length : Int) := by omega
  have hd4 : Hid ((decide (ss.length ≤ 64) && ss.all vStore) = ss.all vStore) := by show (_ : Bool) = _; simp [h4]
  rw [hd4.out]
  go_enter Tryz.func59, Tryz.ntmps59
  go_wp2_with fail
  generalize hW1 : w.alloc (χ #[σ sa ss.length cap] 25) = W1 at x0 ⊢
  clear hW1
  go_loopw [12] (fun i wr => ∃ k : Nat, i = O ι k ∧ k ≤ ss.length ∧ Hid (∀ j, j < k → vStore (ss.getD j s0) = true) ∧ Ext w wr) (fun i _ => ss.length - (intOf i).toNat)
  case atStart => exact ⟨0, rfl, by omega, fun j hj => absurd hj (Nat.not_lt_zero _), x0.out⟩
  case round =>
   obtain ⟨k, rfl, hk, hv, hw⟩ := hrel
   have HW := hide hw
   clear hw
   by_cases hlt : k < ss.length
   ·rcases HX.out with h0 | ⟨b, off, rfl, hrow⟩
    ·rw [h0] at hlt; simp at hlt
    obtain ⟨q0, u, q1, c1⟩ := (hrow.keep HW.out.bl) k hlt
    have hgk := hg.at k hlt
    have hlk := hl.at k hlt
    have hk0 : (0 : Int) ≤ (k : Int) := Int.natCast_nonneg _
    have hk1 : (k : Int) < (ss.length : Int) := by omega
    have C1 := hide c1
    have hcb : Hid (vStore (ss.getD k s0) = vStore ((ss.getD k s0).1, (ss.getD k s0).2)) := rfl
    generalize (ss.getD k s0).1 = A at q0 hcb
    generalize (ss.getD k s0).2 = cs at C1 hgk hlk hcb
    clear hrow c1
    obtain ⟨s1, d1, rfl, _⟩ := C1.out
    have xa : Ext wr (wr.alloc (χ #[O ι A, σ s1 cs.length d1] 41)) := (Ext.refl wr).alloc _ _
    have hva := hide (zv7 A (C1.out.keep xa.bl) hgk hlk)
    have HWa := hide (HW.out.trans xa)
    clear xa
    cases hvb : vStore (A, cs) with
    | true =>
     rw [hvb] at hva hcb
     go_wp2_with (go_at_call 85; refine hva.out.mono ?_; rintro e w2 ⟨rfl, x2⟩; have HW2 := hide (HWa.out.trans x2); clear x2)
     go_roundw
     ·refine ⟨k + 1, by go_num, by omega, fun j hj => ?_, HW2.out⟩
      by_cases e : j = k
      ·rw [e]; exact hcb.out
      ·exact hv.out j (by omega)
     ·simp [intOf]; omega
    | false =>
     rw [hvb] at hva hcb
     go_wp2_with (go_at_call 85; refine hva.out.mono ?_; rintro e w2 ⟨rfl, x2⟩; have HW2 := hide (HWa.out.trans x2); clear x2)
     go_ret
     rw [zb9 s0 hlt hcb.out]
     exact ⟨rfl, HW2.out⟩
   ·have hkk : k = ss.length := by omega
    subst hkk
    go_wp2
    go_ret
    rw [zy9 s0 hv.out]
    exact ⟨rfl, HW.out⟩
 ·have h4' : (64 : Int) < (ss.length : Int) := by omega
  have hd4 : Hid ((decide (ss.length ≤ 64) && ss.all vStore) = false) := by show (_ : Bool) = _; simp [h4]
  rw [hd4.out]
  go_enter Tryz.func59, Tryz.ntmps59
  go_wp2
  go_ret
  exact ⟨rfl, x0.out⟩
theorem zw15 {w : World} {v : Value} {ss : List St} (h : SV w v ss) (hg : SG ss) (hl : SL ss 1048576) :
  Calls Tryz.prog 18 #[γ #[v]] w fun e w' => e = .returned (.bool (vHeap ss)) ∧ Ext w w' := by
 unfold vHeap
 obtain ⟨sa, cap, rfl, hx⟩ := h
 have x0 : Hid (Ext w (w.alloc (χ #[σ sa ss.length cap] 25))) := (Ext.refl w).alloc _ _
 have HX := hide hx
 have hl1 := hl.1
 clear hx
 by_cases h4 : ss.length ≤ 64
 ·have h4' : ¬ (64 : Int) < (ss.length : Int) := by omega
  have hd4 : Hid ((decide (ss.length ≤ 64) && ss.all vStore) = ss.all vStore) := by show (_ : Bool) = _; simp [h4]
  rw [hd4.out]
  go_enter Tryz.func18, Tryz.ntmps18
  go_wp2_with fail
  generalize hW1 : w.alloc (χ #[σ sa ss.length cap] 25) = W1 at x0 ⊢
  have D0 : Hid (W1.cell? ⟨w.heap.size, 0, none⟩ = some (σ sa ss.length cap)) := by show W1.cell? _ = _; rw [← hW1]; exact zg w _ 25 _ rfl 0
  clear hW1
  go_loopw [3] (fun i wr => ∃ k : Nat, i = O ι k ∧ k ≤ ss.length ∧ Hid (∀ j, j < k → vStore (ss.getD j s0) = true) ∧ Ext W1 wr) (fun i _ => ss.length - (intOf i).toNat)
  case atStart => exact ⟨0, rfl, by omega, fun j hj => absurd hj (Nat.not_lt_zero _), Ext.refl W1⟩
  case round =>
   obtain ⟨k, rfl, hk, hv, hw⟩ := hrel
   have HW := hide hw
   clear hw
   have dd := HW.out.box D0.out
   by_cases hlt : k < ss.length
   ·rcases HX.out with h0 | ⟨b, off, rfl, hrow⟩
    ·rw [h0] at hlt; simp at hlt
    obtain ⟨q0, u, q1, c1⟩ := (hrow.keep (x0.out.trans HW.out).bl) k hlt
    have hgk := hg.at k hlt
    have hlk := hl.at k hlt
    have hk0 : (0 : Int) ≤ (k : Int) := Int.natCast_nonneg _
    have hk1 : (k : Int) < (ss.length : Int) := by omega
    have C1 := hide c1
    have hcb : Hid (vStore (ss.getD k s0) = vStore ((ss.getD k s0).1, (ss.getD k s0).2)) := rfl
    generalize (ss.getD k s0).1 = A at q0 hcb
    generalize (ss.getD k s0).2 = cs at C1 hgk hlk hcb
    clear hrow c1
    obtain ⟨s1, d1, rfl, hcr⟩ := C1.out
    have HCR := hide hcr
    clear hcr
    have xa : Ext wr (wr.alloc (χ #[O ι A, σ s1 cs.length d1] 41)) := (Ext.refl wr).alloc _ _
    have n0 := fun j => zg wr #[O ι A, σ s1 cs.length d1] 41 wr.heap.size rfl j
    have HN0 := hide (n0 0)
    have HN1 := hide (n0 1)
    have HWa := hide (HW.out.trans xa)
    have HXa := hide xa
    clear xa n0
    have hcb2 : Hid (vStore (ss.getD k s0) = (isDtB A && decide (cs.length ≤ 4096) && cs.all (cellB A))) := hcb.out.trans (zc10 A cs)
    clear hcb
    cases hd : isDtB A with
    | false =>
     have Hd := hide hd
     have hno : Hid (vStore (ss.getD k s0) = false) := by show vStore _ = false; rw [hcb2.out, hd]; rfl
     clear hd
     go_wp2_with (go_at_call 55; refine (zk _ _).mono ?_; rintro e w' ⟨rfl, rfl⟩; rw [Hd.out])
     go_ret
     rw [zb9 s0 hlt hno.out]
     exact ⟨rfl, x0.out.trans HWa.out⟩
    | true =>
     have Hd := hide hd
     rw [hd] at hcb2
     clear hd
     by_cases h5 : cs.length ≤ 4096
     ·have h5' : ¬ (4096 : Int) < (cs.length : Int) := by omega
      have hc3 : Hid (vStore (ss.getD k s0) = cs.all (cellB A)) := by show vStore _ = _; rw [hcb2.out]; simp [h5]
      clear hcb2
      go_wp2_with (go_at_call 55; refine (zk _ _).mono ?_; rintro e w' ⟨rfl, rfl⟩; rw [Hd.out])
      generalize hWa : wr.alloc (χ #[O ι A, σ s1 cs.length d1] 41) = Wa at HN0 HN1 HWa HXa ⊢
      generalize wr.heap.size = B0 at HN0 HN1 ⊢
      clear hWa
      go_loopw [5] (fun i wr2 => ∃ m : Nat, i = O ι m ∧ m ≤ cs.length ∧ Hid (∀ j, j < m → cellB A (cs.getD j k0) = true) ∧ Ext Wa wr2) (fun i _ => cs.length - (intOf i).toNat)
      case atStart => exact ⟨0, rfl, by omega, fun j hj => absurd hj (Nat.not_lt_zero _), Ext.refl Wa⟩
      case round =>
       obtain ⟨m, rfl, hm, hv2, hw2⟩ := hrel
       have HW2 := hide hw2
       clear hw2
       have e0 := HW2.out.box HN0.out
       have e1 := HW2.out.box HN1.out
       by_cases hml : m < cs.length
       ·rcases HCR.out with h0 | ⟨bc, oc, rfl, hrow⟩
        ·rw [h0] at hml; simp at hml
        have xx := HXa.out.trans HW2.out
        have q0 := xx.box (hrow m hml).1
        have q1 := xx.box (hrow m hml).2.1
        have q2 := xx.box (hrow m hml).2.2
        have hgm := hgk.at m hml
        have hm0 : (0 : Int) ≤ (m : Int) := Int.natCast_nonneg _
        have hm1 : (m : Int) < (cs.length : Int) := by omega
        have hcb : Hid (cellB A (cs.getD m k0) = validB A (cs.getD m k0).1 (cs.getD m k0).2.1 (cs.getD m k0).2.2) := rfl
        generalize (cs.getD m k0).1 = X at q0 hgm hcb
        generalize (cs.getD m k0).2.1 = Y at q1 hgm hcb
        generalize (cs.getD m k0).2.2 = Z at q2 hgm hcb
        have HG := hide hgm
        clear hrow hgm xx
        have hva := hide (fun W => zf1 A X Y Z HG.out.2.1 HG.out.2.2 W)
        cases hvb : validB A X Y Z with
        | true =>
         rw [hvb] at hva hcb
         have SA : Hid ((fun w' => w'.cell? ⟨B0, 0, none⟩ = some (O ι A) ∧ w'.cell? ⟨B0, 1, none⟩ = some (σ (some ⟨bc, oc, none⟩) cs.length d1) ∧ w'.cell? ⟨bc, oc + m * 3, none⟩ = some (O ι X) ∧ w'.cell? ⟨bc, oc + m * 3 + 1, none⟩ = some (.float .f64 Y) ∧ w'.cell? ⟨bc, oc + m * 3 + 2, none⟩ = some (.float .f64 Z)) wr.drew) := ⟨e0, e1, q0, q1, q2⟩
         go_wp2_with fail
         go_region_held3 (fun w' => w'.cell? ⟨B0, 0, none⟩ = some (O ι A) ∧ w'.cell? ⟨B0, 1, none⟩ = some (σ (some ⟨bc, oc, none⟩) cs.length d1) ∧ w'.cell? ⟨bc, oc + m * 3, none⟩ = some (O ι X) ∧ w'.cell? ⟨bc, oc + m * 3 + 1, none⟩ = some (.float .f64 Y) ∧ w'.cell? ⟨bc, oc + m * 3 + 2, none⟩ = some (.float .f64 Z)) (first | with_reducible exact SA.out | with_reducible exact SB'.out | exact SA.out | exact SB'.out | fail) (first | (go_at_call 56; refine (hva.out _).mono ?_; rintro e w3 ⟨rfl, x3⟩; have HW3 := hide (HW2.out.drew.trans x3); have SB' : Hid ((fun w' => w'.cell? ⟨B0, 0, none⟩ = some (O ι A) ∧ w'.cell? ⟨B0, 1, none⟩ = some (σ (some ⟨bc, oc, none⟩) cs.length d1) ∧ w'.cell? ⟨bc, oc + m * 3, none⟩ = some (O ι X) ∧ w'.cell? ⟨bc, oc + m * 3 + 1, none⟩ = some (.float .f64 Y) ∧ w'.cell? ⟨bc, oc + m * 3 + 2, none⟩ = some (.float .f64 Z)) w3) := ⟨x3.box e0, x3.box e1, x3.box q0, x3.box q1, x3.box q2⟩; clear x3) | fail)
         go_wp2
         go_roundw
         ·refine ⟨m + 1, by go_num, by omega, fun j hj => ?_, HW3.out⟩
          by_cases e : j = m
          ·rw [e]; exact hcb.out
          ·exact hv2.out j (by omega)
         ·simp [intOf]; omega
        | false =>
         rw [hvb] at hva hcb
         have hno : Hid (vStore (ss.getD k s0) = false) := by show vStore _ = _; rw [hc3.out]; exact zb9 k0 hml hcb.out
         have SA : Hid ((fun w' => w'.cell? ⟨B0, 0, none⟩ = some (O ι A) ∧ w'.cell? ⟨B0, 1, none⟩ = some (σ (some ⟨bc, oc, none⟩) cs.length d1) ∧ w'.cell? ⟨bc, oc + m * 3, none⟩ = some (O ι X) ∧ w'.cell? ⟨bc, oc + m * 3 + 1, none⟩ = some (.float .f64 Y) ∧ w'.cell? ⟨bc, oc + m * 3 + 2, none⟩ = some (.float .f64 Z)) wr.drew) := ⟨e0, e1, q0, q1, q2⟩
         go_wp2_with fail
         go_region_held3 (fun w' => w'.cell? ⟨B0, 0, none⟩ = some (O ι A) ∧ w'.cell? ⟨B0, 1, none⟩ = some (σ (some ⟨bc, oc, none⟩) cs.length d1) ∧ w'.cell? ⟨bc, oc + m * 3, none⟩ = some (O ι X) ∧ w'.cell? ⟨bc, oc + m * 3 + 1, none⟩ = some (.float .f64 Y) ∧ w'.cell? ⟨bc, oc + m * 3 + 2, none⟩ = some (.float .f64 Z)) (first | with_reducible exact SA.out | with_reducible exact SB'.out | exact SA.out | exact SB'.out | fail) (first | (go_at_call 56; refine (hva.out _).mono ?_; rintro e w3 ⟨rfl, x3⟩; have HW3 := hide (HW2.out.drew.trans x3); have SB' : Hid ((fun w' => w'.cell? ⟨B0, 0, none⟩ = some (O ι A) ∧ w'.cell? ⟨B0, 1, none⟩ = some (σ (some ⟨bc, oc, none⟩) cs.length d1) ∧ w'.cell? ⟨bc, oc + m * 3, none⟩ = some (O ι X) ∧ w'.cell? ⟨bc, oc + m * 3 + 1, none⟩ = some (.float .f64 Y) ∧ w'.cell? ⟨bc, oc + m * 3 + 2, none⟩ = some (.float .f64 Z)) w3) := ⟨x3.box e0, x3.box e1, x3.box q0, x3.box q1, x3.box q2⟩; clear x3) | fail)
         go_wp2
         go_ret
         rw [zb9 s0 hlt hno.out]
         exact ⟨rfl, (x0.out.trans HWa.out).trans HW3.out⟩
       ·have hmm : m = cs.length := by omega
        subst hmm
        have hyes : Hid (vStore (ss.getD k s0) = true) := by show vStore _ = _; rw [hc3.out]; exact zy9 k0 hv2.out
        go_wp2
        go_roundw
        ·refine ⟨k + 1, by go_num, by omega, fun j hj => ?_, HWa.out.trans HW2.out⟩
         by_cases e : j = k
         ·rw [e]; exact hyes.out
         ·exact hv.out j (by omega)
        ·simp [intOf]; omega
     ·have h5' : (4096 : Int) < (cs.length : Int) := by omega
      have hno : Hid (vStore (ss.getD k s0) = false) := by show vStore _ = _; rw [hcb2.out]; simp [h5]
      clear hcb2
      go_wp2_with (go_at_call 55; refine (zk _ _).mono ?_; rintro e w' ⟨rfl, rfl⟩; rw [Hd.out])
      go_ret
      rw [zb9 s0 hlt hno.out]
      exact ⟨rfl, x0.out.trans HWa.out⟩
   ·have hkk : k = ss.length := by omega
    subst hkk
    go_wp2
    go_ret
    rw [zy9 s0 hv.out]
    exact ⟨rfl, x0.out.trans HW.out⟩
 ·have h4' : (64 : Int) < (ss.length : Int) := by omega
  have hd4 : Hid ((decide (ss.length ≤ 64) && ss.all vStore) = false) := by show (_ : Bool) = _; simp [h4]
  rw [hd4.out]
  go_enter Tryz.func18, Tryz.ntmps18
  go_wp2
  go_ret
  exact ⟨rfl, x0.out⟩
abbrev GoodA (ss : List St) (st : Int) (xs sv : List Int) (off : Int) : Prop := (0 ≤ st ∧ st < ss.length) ∧ ValidV xs sv off ∧ ∀ p ∈ offsL xs sv off, p < ((ss.getD st.toNat s0).2.length : Int)
def dcGoodA (ss : List St) (st : Int) (xs sv : List Int) (off : Int) : Bool := decide (GoodA ss st xs sv off)
theorem dcGoodA_t {ss : List St} {st : Int} {xs sv : List Int} {off : Int} (h : GoodA ss st xs sv off) : dcGoodA ss st xs sv off = true := decide_eq_true h
theorem dcGoodA_f {ss : List St} {st : Int} {xs sv : List Int} {off : Int} (h : ¬ GoodA ss st xs sv off) : dcGoodA ss st xs sv off = false := decide_eq_false h
theorem zs6 {xs sv : List Int} {off : Int} (hv : ValidV xs sv off) : (offsL xs sv off).length ≤ 4096 := by
 unfold offsL
 split
 ·simp
 ·rw [zl2 xs sv off hv.2.1.symm]
  have h1 := zc1 (fun m hm => (zx hv.1 m hm).1)
  have h2 := hv.1.2.2
  omega
theorem zb6 {w : World} {v vS vT : Value} {ss : List St} {xs sv : List Int} (h : SV w v ss) (hl : SL ss 1048576) (st : Int) (hS : Ints w vS xs) (hT : Ints w vT sv) (off : Int) (lx : xs.length ≤ 1048576) (ls : sv.length ≤ 1048576) :
  Calls Tryz.prog 19 #[γ #[v], γ #[O ι st, vS, vT, O ι off]] w fun e w' => e = .returned (.bool (dcGoodA ss st xs sv off)) ∧ Bel w w' := by
 obtain ⟨sa, cap, rfl, hx⟩ := h
 have h : SV w (σ sa ss.length cap) ss := ⟨sa, cap, rfl, hx⟩
 have x0 : Ext w ((w.alloc (χ #[σ sa ss.length cap] 25)).alloc (χ #[O ι st, vS, vT, O ι off] 30)) := ((Ext.refl w).alloc _ _).alloc _ _
 have y0 : Ext (w.alloc (χ #[σ sa ss.length cap] 25)) ((w.alloc (χ #[σ sa ss.length cap] 25)).alloc (χ #[O ι st, vS, vT, O ι off] 30)) := (Ext.refl _).alloc _ _
 have n1 := fun j => zg w #[σ sa ss.length cap] 25 w.heap.size rfl j
 have n2 := fun j => zg (w.alloc (χ #[σ sa ss.length cap] 25)) #[O ι st, vS, vT, O ι off] 30 (w.heap.size + 1) (by simp) j
 have C0 : Hid (((w.alloc (χ #[σ sa ss.length cap] 25)).alloc (χ #[O ι st, vS, vT, O ι off] 30)).cell? ⟨w.heap.size, 0, none⟩ = some (σ sa ss.length cap)) := y0.box (n1 0)
 have A0 : Hid (((w.alloc (χ #[σ sa ss.length cap] 25)).alloc (χ #[O ι st, vS, vT, O ι off] 30)).cell? ⟨w.heap.size + 1, 0, none⟩ = some (O ι st)) := n2 0
 have A1 : Hid (((w.alloc (χ #[σ sa ss.length cap] 25)).alloc (χ #[O ι st, vS, vT, O ι off] 30)).cell? ⟨w.heap.size + 1, 1, none⟩ = some vS) := n2 1
 have A2 : Hid (((w.alloc (χ #[σ sa ss.length cap] 25)).alloc (χ #[O ι st, vS, vT, O ι off] 30)).cell? ⟨w.heap.size + 1, 2, none⟩ = some vT) := n2 2
 have A3 : Hid (((w.alloc (χ #[σ sa ss.length cap] 25)).alloc (χ #[O ι st, vS, vT, O ι off] 30)).cell? ⟨w.heap.size + 1, 3, none⟩ = some (O ι off)) := n2 3
 have X0 := hide x0.bl
 have HH := hide (h.keep x0.bl)
 have HS := hide (hS.ext x0)
 have HT := hide (hT.ext x0)
 have hl1 := hl.1
 clear hx h x0 y0 n1 n2
 obtain ⟨s1, d1, rfl, _⟩ := hS
 obtain ⟨s2, d2, rfl, _⟩ := hT
 by_cases h1 : st < 0
 ·have hno : Hid ((dcGoodA ss st xs sv off) = false) := decide_eq_false (fun q => by have := q.1.1; omega)
  have hd : decide (st < 0) = true := decide_eq_true h1
  go_enter Tryz.func19, Tryz.ntmps19
  go_wp2
  go_ret
  exact ⟨zn hno.out.symm, X0.out⟩
 have hd1 : decide (st < 0) = false := decide_eq_false h1
 by_cases h2 : (ss.length : Int) ≤ st
 ·have hno : Hid ((dcGoodA ss st xs sv off) = false) := decide_eq_false (fun q => by have := q.1.2; omega)
  have hd : decide ((ss.length : Int) ≤ st) = true := decide_eq_true h2
  go_enter Tryz.func19, Tryz.ntmps19
  go_wp2
  go_ret
  exact ⟨zn hno.out.symm, X0.out⟩
 have hd2 : decide ((ss.length : Int) ≤ st) = false := decide_eq_false h2
 obtain ⟨k, rfl⟩ : ∃ k : Nat, st = (k : Int) := ⟨st.toNat, by omega⟩
 have hk : k < ss.length := by omega
 have hgv : Hid (GoodA ss k xs sv off ↔ ValidV xs sv off ∧ ∀ p ∈ offsL xs sv off, p < ((ss.getD k s0).2.length : Int)) := by
  show GoodA ss k xs sv off ↔ _
  unfold GoodA
  rw [Int.toNat_natCast]
  exact ⟨fun q => q.2, fun q => ⟨⟨by omega, by omega⟩, q⟩⟩
 have hvv := hide (zh9 HS.out HT.out off lx ls)
 generalize hW0 : (w.alloc (χ #[σ sa ss.length cap] 25)).alloc (χ #[O ι (k : Int), σ s1 xs.length d1, σ s2 sv.length d2, O ι off] 30) = W0 at C0 A0 A1 A2 A3 X0 HH HS HT hvv
 have HW0 := hide hW0
 clear hW0
 by_cases hv : ValidV xs sv off
 ·have hdv : (dcValidV xs sv off) = true := dcValidV_t hv
  rw [hdv] at hvv
  have HV := hide hv
  clear hv
  go_enter Tryz.func19, Tryz.ntmps19
  go_wp2_with (go_at_call 20; rw [HW0.out]; refine hvv.out.mono ?_; rintro e w1 ⟨rfl, x1⟩; have c0' := x1.box C0.out; have a0' := x1.box A0.out; have a1' := x1.box A1.out; have a2' := x1.box A2.out; have a3' := x1.box A3.out)
  have hv := HV.out
  have HS1 := hide (HS.out.below x1)
  have HT1 := hide (HT.out.below x1)
  have HH1 := hide (HH.out.keep x1)
  have X1 := hide (Bel.tr X0.out x1)
  have hOl := zs6 hv
  refine (za2 HS1.out HT1.out off hv).mono ?_
  rintro e w2 ⟨so, co, rfl, hO, x2⟩
  have c2' := Bel.box x2 c0'
  have a2'' := Bel.box x2 a0'
  have HH2 := hide (HH1.out.keep x2)
  have X2 := hide (Bel.tr X1.out x2)
  have HO := hide hO
  clear x1 x2 hO c0' a0' a1' a2' a3' HS1 HT1 HH1 X1 HS HT HH X0 C0 A0 A1 A2 A3 HW0 hvv
  have hgv2 : Hid (GoodA ss k xs sv off ↔ ∀ p ∈ offsL xs sv off, p < ((ss.getD k s0).2.length : Int)) := ⟨fun q => (hgv.out.1 q).2, fun q => hgv.out.2 ⟨hv, q⟩⟩
  clear hgv hdv hv HV
  obtain ⟨sb0, cb0, eb0, hrow0⟩ := HH2.out
  injection eb0 with eb1 _ eb2
  subst eb1 eb2
  rcases hrow0 with h0 | ⟨bs, os, rfl, hrow⟩
  ·rw [h0] at hk; simp at hk
  obtain ⟨q0, u, q1, q2⟩ := hrow k hk
  obtain ⟨su, cu, rfl, _⟩ := q2
  have hcl := hl.at k hk
  generalize (ss.getD k s0).2.length = N at hgv2 hcl q1
  generalize (ss.getD k s0).1 = DT at q0
  generalize offsL xs sv off = L at HO hOl hgv2 ⊢
  clear hrow
  have hk0 : (0 : Int) ≤ (k : Int) := Int.natCast_nonneg _
  have hk1 : (k : Int) < (ss.length : Int) := by omega
  go_wp2_with fail
  go_loopw [6] (fun i wr => ∃ m : Nat, i = O ι m ∧ m ≤ L.length ∧ Hid (∀ j, j < m → L.getD j 0 < (N : Int)) ∧ Ext w2 wr) (fun i _ => L.length - (intOf i).toNat)
  case atStart => exact ⟨0, rfl, by omega, fun j hj => absurd hj (Nat.not_lt_zero _), Ext.refl w2⟩
  case round =>
   obtain ⟨m, rfl, hm, hv2, hw2⟩ := hrel
   have HW2 := hide hw2
   clear hw2
   have b0' := HW2.out.box c2'
   have b1' := HW2.out.box a2''
   have b2' := HW2.out.box q1
   by_cases hml : m < L.length
   ·rcases HO.out with h0 | ⟨g, rfl, hg1, hrowL, _⟩
    ·rw [h0] at hml; simp at hml
    have l0 := HW2.out.box (hrowL m hml)
    rw [Nat.zero_add] at l0
    have hm0 : (0 : Int) ≤ (m : Int) := Int.natCast_nonneg _
    have hm1 : (m : Int) < (L.length : Int) := by omega
    have hmem : Hid (¬ L.getD m 0 < (N : Int) → ¬ GoodA ss k xs sv off) := fun q1 q2 => q1 (hgv2.out.1 q2 _ (by rw [List.getD_eq_getElem?_getD, List.getElem?_eq_getElem hml]; exact List.getElem_mem hml))
    have hstep : Hid (L.getD m 0 < (N : Int) → ∀ j, j < m + 1 → L.getD j 0 < (N : Int)) := fun q j hj => by
     by_cases e : j = m
     ·rw [e]; exact q
     ·exact hv2.out j (by omega)
    generalize L.getD m 0 = X at l0 hmem hstep
    clear hrowL
    by_cases hX : X < (N : Int)
    ·have hX' : ¬ (N : Int) ≤ X := by omega
     have hXd : decide ((N : Int) ≤ X) = false := decide_eq_false hX'
     go_wp2_with fail
     go_quiet (fail)
     go_wp2
     go_roundw
     ·exact ⟨m + 1, by go_num, by omega, hstep.out hX, HW2.out.drewN _⟩
     ·simp [intOf]; omega
    ·have hX' : (N : Int) ≤ X := by omega
     have hXd : decide ((N : Int) ≤ X) = true := decide_eq_true hX'
     have hno : Hid ((dcGoodA ss k xs sv off) = false) := decide_eq_false (hmem.out hX)
     go_wp2_with fail
     go_quiet (fail)
     go_wp2
     go_ret
     exact ⟨zn hno.out.symm, Bel.tr X2.out (HW2.out.drewN _).bl⟩
   ·have hmm : m = L.length := by omega
    subst hmm
    have hyes : Hid ((dcGoodA ss k xs sv off) = true) := decide_eq_true (hgv2.out.2 fun p hp => by
     obtain ⟨j, hj, rfl⟩ := List.getElem_of_mem hp
     have := hv2.out j hj
     rw [List.getD_eq_getElem?_getD, List.getElem?_eq_getElem hj] at this
     exact this)
    go_wp2
    go_ret
    exact ⟨zn hyes.out.symm, Bel.tr X2.out HW2.out.bl⟩
 ·have hno : Hid ((dcGoodA ss k xs sv off) = false) := decide_eq_false (fun q => hv (hgv.out.1 q).1)
  have hdv : (dcValidV xs sv off) = false := dcValidV_f hv
  rw [hdv] at hvv
  have HV := hide hv
  clear hv
  go_enter Tryz.func19, Tryz.ntmps19
  go_wp2_with (go_at_call 20; rw [HW0.out]; refine hvv.out.mono ?_; rintro e w1 ⟨rfl, x1⟩)
  have hv := HV.out
  go_ret
  exact ⟨zn hno.out.symm, Bel.tr X0.out x1⟩

end
section
open Go.ChangeShapes Go.RowKit
def inN (xs ss : List Int) (off N : Int) : Bool := decide (prod xs = 0 ∨ (0 ≤ least xs ss off ∧ most xs ss off < N))
theorem zd13 (N : Int) (hN : 0 ≤ N ∧ N ≤ 1048576) (w : World) (xs ss : List Int) (off : Int) (h4 : xs.length ≤ 4) (hr : InR xs xs.length) (hl : ss.length = xs.length) (hs : InS ss ss.length) (ho : 0 ≤ off ∧ off ≤ 4096) :
  Calls Tryz.prog 61 #[γ (vw xs ss off), O ι N] w fun e w' => e = .returned (.bool (inN xs ss off N)) ∧ Ext w w' := by
 have hcnt := hide (fun W => zp1 W xs h4 hr)
 have x0 : Ext w ((w.alloc (χ (vw xs ss off) 65)).alloc (χ (shp xs) 63)) := ((Ext.refl w).alloc _ _).alloc _ _
 have y0 : Ext (w.alloc (χ (vw xs ss off) 65)) ((w.alloc (χ (vw xs ss off) 65)).alloc (χ (shp xs) 63)) := (Ext.refl _).alloc _ _
 have n1 := fun j => zg w (vw xs ss off) 65 w.heap.size rfl j
 have f0 := y0.box (n1 0)
 have f9 := y0.box (n1 9)
 have fl : ∀ j, j < 4 → ((w.alloc (χ (vw xs ss off) 65)).alloc (χ (shp xs) 63)).cell? ⟨w.heap.size, 1 + j, none⟩ = some (O ι (xs.getD j 0)) := fun j hj => by
  obtain rfl | rfl | rfl | rfl : j = 0 ∨ j = 1 ∨ j = 2 ∨ j = 3 := by omega
  exact y0.box (n1 1)
  exact y0.box (n1 2)
  exact y0.box (n1 3)
  exact y0.box (n1 4)
 have fs : ∀ j, j < 4 → ((w.alloc (χ (vw xs ss off) 65)).alloc (χ (shp xs) 63)).cell? ⟨w.heap.size, 5 + j, none⟩ = some (O ι (ss.getD j 0)) := fun j hj => by
  obtain rfl | rfl | rfl | rfl : j = 0 ∨ j = 1 ∨ j = 2 ∨ j = 3 := by omega
  exact y0.box (n1 5)
  exact y0.box (n1 6)
  exact y0.box (n1 7)
  exact y0.box (n1 8)
 have X0 := hide x0
 have FL := hide fl
 have FxS' := hide fs
 clear x0 y0 n1 fl fs
 unfold shp vw at *
 generalize xs.getD 0 0 = a0 at *
 generalize xs.getD 1 0 = a1 at *
 generalize xs.getD 2 0 = a2 at *
 generalize xs.getD 3 0 = a3 at *
 generalize ss.getD 0 0 = b0 at *
 generalize ss.getD 1 0 = b1 at *
 generalize ss.getD 2 0 = b2 at *
 generalize ss.getD 3 0 = b3 at *
 have h4' : (xs.length : Int) ≤ 4 := by omega
 have Hl := hide hl
 have HR := hide hr
 have HS := hide hs
 clear hl hr hs
 go_enter Tryz.func61, Tryz.ntmps61
 go_wp2_with fail
 refine (hcnt.out _).mono ?_
 rintro e w1 ⟨rfl, rfl⟩
 by_cases hp : prod xs = 0
 ·have hyes : Hid (inN xs ss off N = true) := decide_eq_true (Or.inl hp)
  rw [hp]
  go_wp2
  go_ret
  exact ⟨zn hyes.out.symm, X0.out⟩
 ·have hpn : (prod xs == 0) = false := by simp [hp]
  have hin : Hid (inN xs ss off N = decide (0 ≤ least xs ss off ∧ most xs ss off < N)) := decide_eq_decide.2 ⟨fun q => q.resolve_left hp, Or.inr⟩
  generalize prod xs = P at hpn ⊢
  go_wp2_with fail
  generalize hW1 : (w.alloc (χ #[O ι xs.length, O ι a0, O ι a1, O ι a2, O ι a3, O ι b0, O ι b1, O ι b2, O ι b3, O ι off] 65)).alloc (χ #[O ι xs.length, O ι a0, O ι a1, O ι a2, O ι a3] 63) = W1 at X0 FL FxS' f0 f9 ⊢
  clear hW1
  have g0 : W1.cell? ⟨w.heap.size, 0, none⟩ = some (O ι xs.length) := f0
  have g9 : W1.cell? ⟨w.heap.size, 9, none⟩ = some (O ι off) := f9
  clear f0 f9
  go_region
  all_goals go_wp2
  go_loopw [5, 6, 24] (fun a b i wr => ∃ k : Nat, i = O ι k ∧ a = O ι (least (xs.take k) (ss.take k) off) ∧ b = O ι (most (xs.take k) (ss.take k) off) ∧ k ≤ xs.length ∧ Ext W1 wr) (fun a b i _ => xs.length - (intOf i).toNat)
  case atStart => exact ⟨0, rfl, by simp [least], by simp [most], by omega, (Ext.refl W1).drew⟩
  case round =>
   obtain ⟨k, rfl, rfl, rfl, hk, hx⟩ := hrel
   have HX := hide hx
   clear hx
   have hb := zy12 xs ss off Hl.out HR.out HS.out ho k hk
   have hk4 : (k : Int) * 16777216 ≤ 67108864 := by omega
   by_cases hlt : k < xs.length
   ·have q0 := HX.out.box (FL.out k (by omega))
    have q1 := HX.out.box (FxS'.out k (by omega))
    have hk0 : (0 : Int) ≤ (k : Int) := Int.natCast_nonneg _
    have hk1 : (k : Int) < (xs.length : Int) := by omega
    have hk44 : (k : Int) < 4 := by omega
    have hlt1 := za6 xs ss off k hlt Hl.out
    have hmt1 := zk7 xs ss off k hlt Hl.out
    have hfar := zh17 (HR.out k hlt) (HS.out k (by have := Hl.out; omega))
    have hnr := HR.out k hlt
    generalize xs.getD k 0 = n at q0 hlt1 hmt1 hfar hnr
    generalize ss.getD k 0 = s at q1 hlt1 hmt1 hfar
    generalize hA : least (xs.take (k + 1)) (ss.take (k + 1)) off = A at hlt1
    generalize hB : most (xs.take (k + 1)) (ss.take (k + 1)) off = B at hmt1
    generalize least (xs.take k) (ss.take k) off = a at hlt1 hb ⊢
    generalize most (xs.take k) (ss.take k) off = b at hmt1 hb ⊢
    have HA := hide hA
    have HB := hide hB
    clear hA hB
    subst hlt1
    subst hmt1
    go_wp2
    refine ⟨⟨k + 1, by go_num, ?_, ?_, by omega, HX.out⟩, by simp [intOf]; omega⟩
    ·rw [HA.out]
     have e : (if 0 < s * (n - 1) then 0 else s * (n - 1)) = min (s * (n - 1)) 0 := by split <;> omega
     rw [e]
    ·rw [HB.out]
     have e : (if s * (n - 1) < 0 then 0 else s * (n - 1)) = max (s * (n - 1)) 0 := by split <;> omega
     rw [e]
   ·have hkk : k = xs.length := by omega
    subst hkk
    have e1 : xs.take xs.length = xs := List.take_length
    have e2 : ss.take xs.length = ss := List.take_of_length_le (by have := Hl.out; omega)
    rw [e1, e2]
    clear hb e1 e2
    generalize least xs ss off = a at hin ⊢
    generalize most xs ss off = b at hin ⊢
    by_cases ha : 0 ≤ a
    ·by_cases hb : b < N
     ·have hv : Hid (inN xs ss off N = true) := by show inN xs ss off N = true; rw [hin.out]; exact decide_eq_true ⟨ha, hb⟩
      go_wp2
      go_ret
      exact ⟨by rw [hv.out]; first | rfl | simp [ha, hb], X0.out.trans HX.out⟩
     ·have hv : Hid (inN xs ss off N = false) := by show inN xs ss off N = false; rw [hin.out]; exact decide_eq_false (fun q => hb q.2)
      go_wp2
      go_ret
      exact ⟨by rw [hv.out]; first | rfl | simp [ha, hb], X0.out.trans HX.out⟩
    ·have hv : Hid (inN xs ss off N = false) := by show inN xs ss off N = false; rw [hin.out]; exact decide_eq_false (fun q => ha q.1)
     go_wp2
     go_ret
     exact ⟨by rw [hv.out]; first | rfl | simp [ha], X0.out.trans HX.out⟩
end
section
open Go.ChangeShapes Go.RowKit FL
theorem zc19 : (Tryz.prog.info? 67).map (fun i => (i.zero, i.size, i.bytes)) = some (some (γ #[O ι 0, O ι 0, O ι 0, O ι 0, O ι 0, O ι 0, O ι 0, O ι 0, O ι 0, O ι 0, O ι 0, O ι 0, σ none 0 0]), 13, 120) := by kernel_rfl
theorem za17 {xs sv : List Int} {off : Int} (hv : ValidV xs sv off) (N : Int) : (∀ p ∈ offsL xs sv off, p < N) ↔ inN xs sv off N = true := by
 unfold offsL inN
 rw [decide_eq_true_iff]
 by_cases h : prod xs = 0
 ·rw [if_pos h]
  exact ⟨fun _ => Or.inl h, fun _ p hp => by simp at hp⟩
 ·rw [if_neg h]
  have hr := hv.2.2.2.2.resolve_left h
  have hp := zh5 hv.1 h
  have he := zx12 xs sv off hv.2.1.symm (fun n hn => (hp n hn).1)
  exact ⟨fun q => Or.inr ⟨hr.1, q _ he.2⟩, fun q p hpp => by
   have h1 := (q.resolve_left h).2
   have h2 := zg7 xs sv off p hpp hv.2.1.symm
   omega⟩
def openC (xs sv : List Int) (off st dt : Int) (u : Value) : List Value := [O ι xs.length, O ι (xs.getD 0 0), O ι (xs.getD 1 0), O ι (xs.getD 2 0), O ι (xs.getD 3 0), O ι (sv.getD 0 0), O ι (sv.getD 1 0), O ι (sv.getD 2 0), O ι (sv.getD 3 0), O ι off, O ι st, O ι dt, u]
def openL (ss : List St) (st : Int) (xs sv : List Int) (off : Int) : Int := if vHeap ss = true then (if GoodA ss st xs sv off then 0 else 2) else 1
def OpenOk (w : World) (ss : List St) (st : Int) (xs sv : List Int) (off : Int) (e : Ending) (w' : World) : Prop :=
 ∃ v, e = .returned (.tuple #[v, O ι (openL ss st xs sv off)]) ∧ Bel w w' ∧ ((openL ss st xs sv off ≠ 0 ∧ v = σ none 0 0) ∨
  (openL ss st xs sv off = 0 ∧ ∃ g cap u, v = σ (some ⟨g, 0, none⟩) 1 cap ∧ CV w' u (ss.getD st.toNat s0).2 ∧ ∀ j x, (openC xs sv off st (ss.getD st.toNat s0).1 u)[j]? = some x → w'.cell? ⟨g, j, none⟩ = some x))
theorem ze16 {w w' : World} {base e size n : Nat} {v : Value} {xs : List Value} (h : w.ownsRow base e size v n xs) (x : Ext w w') : w'.ownsRow base e size v n xs := by
 refine ⟨h.1, ?_⟩
 rcases h.2 with h | ⟨g, cap, cur, rfl, h1, h2, h3⟩
 ·exact Or.inl h
 ·exact Or.inr ⟨g, cap, cur, rfl, h1, by rw [x.bl.block g (Array.getElem?_eq_some_iff.1 h2).1]; exact h2, h3⟩
theorem zz17 {w : World} {base e size n : Nat} {v : Value} {xs : List Value} (h : w.ownsRow base e size v n xs) (hn : 0 < n) : ∃ g cap, v = σ (some ⟨g, 0, none⟩) n cap ∧ base ≤ g := by
 rcases h.2 with ⟨_, h2⟩ | ⟨g, cap, cur, h1, h2, _⟩
 ·omega
 ·exact ⟨g, cap, h1, h2⟩
theorem zp21 (xs sv : List Int) (off st dt : Int) (u : Value) (hu : u.oneCell' = true) : ∀ x ∈ openC xs sv off st dt u, x.oneCell' = true := fun x hx => by
 simp only [openC, List.mem_cons, List.not_mem_nil, or_false] at hx
 rcases hx with rfl | rfl | rfl | rfl | rfl | rfl | rfl | rfl | rfl | rfl | rfl | rfl | rfl <;> first | rfl | exact hu
def OpDone (w : World) (ss : List St) (st : Int) (xs sv : List Int) (off : Int) (o : Value) (wr : World) : Prop := GoodA ss st xs sv off ∧ Bel w wr ∧ ∃ g cap u, o = σ (some ⟨g, 0, none⟩) 1 cap ∧ CV wr u (ss.getD st.toNat s0).2 ∧ ∀ j x, (openC xs sv off st (ss.getD st.toNat s0).1 u)[j]? = some x → wr.cell? ⟨g, j, none⟩ = some x
def OpRel (w Wm : World) (b : Nat) (ss : List St) (st : Int) (xs sv : List Int) (off : Int) (o i : Value) (wr : World) : Prop := (i = O ι 0 ∧ o = σ (some ⟨b, 0, none⟩) 0 1 ∧ wr = Wm) ∨ (i = O ι 1 ∧ OpDone w ss st xs sv off o wr)
theorem zc18 {w : World} {v vS vT : Value} {ss : List St} {xs sv : List Int} {ga oa : Nat} (h : SV w v ss) (hg : SG ss) (hl : SL ss 1048576) (st : Int) (hS : Ints w vS xs) (hT : Ints w vT sv) (off : Int) (lx : xs.length ≤ 1048576) (ls : sv.length ≤ 1048576)
  (b0 : w.cell? ⟨ga, oa, none⟩ = some (O ι st)) (b1 : w.cell? ⟨ga, oa + 1, none⟩ = some vS) (b2 : w.cell? ⟨ga, oa + 2, none⟩ = some vT) (b3 : w.cell? ⟨ga, oa + 3, none⟩ = some (O ι off)) :
  Calls Tryz.prog 22 #[γ #[v], σ (some ⟨ga, oa, none⟩) 1 1] w fun e w' => OpenOk w ss st xs sv off e w' := by
 obtain ⟨i77, hi77, hy0, hy1, hy2⟩ := info_parts zc19
 obtain ⟨sa, cap, rfl, hx⟩ := h
 have h : SV w (σ sa ss.length cap) ss := ⟨sa, cap, rfl, hx⟩
 have x0 : Ext w (w.alloc (χ #[σ sa ss.length cap] 25)) := (Ext.refl w).alloc _ _
 have n1 := fun j => zg w #[σ sa ss.length cap] 25 w.heap.size rfl j
 have C0 : Hid ((w.alloc (χ #[σ sa ss.length cap] 25)).cell? ⟨w.heap.size, 0, none⟩ = some (σ sa ss.length cap)) := n1 0
 have X0 := hide x0
 have HH := hide (h.keep x0.bl)
 have HS := hide (hS.ext x0)
 have HT := hide (hT.ext x0)
 have B0 := hide (x0.box b0)
 have B1 := hide (x0.box b1)
 have B2 := hide (x0.box b2)
 have B3 := hide (x0.box b3)
 have hvh := hide (zz16 HH.out hg hl)
 have hl1 := hl.1
 have H00 := hide h
 clear hx h x0 n1 b0 b1 b2 b3
 obtain ⟨s1, d1, rfl, _⟩ := hS
 obtain ⟨s2, d2, rfl, _⟩ := hT
 generalize hW0 : (w.alloc (χ #[σ sa ss.length cap] 25)) = W0 at C0 X0 HH HS HT B0 B1 B2 B3 hvh
 have HW0 := hide hW0
 clear hW0
 cases hV : vHeap ss with
 | false =>
  have ho : Hid (openL ss st xs sv off = 1) := by show openL ss st xs sv off = 1; unfold openL; rw [if_neg (by rw [hV]; simp)]
  rw [hV] at hvh
  go_enter Tryz.func22, Tryz.ntmps22
  go_wp2_with (go_at_call 59; rw [HW0.out]; refine hvh.out.mono ?_; rintro e w1 ⟨rfl, x1⟩)
  refine bodyPost_ret (results_tmp2 rfl _ _ _) rfl ?_
  unfold OpenOk
  rw [ho.out]
  exact ⟨_, rfl, (X0.out.trans x1).bl, Or.inl ⟨by omega, rfl⟩⟩
 | true =>
  have ho : Hid (openL ss st xs sv off = if GoodA ss st xs sv off then 0 else 2) := by show openL ss st xs sv off = _; unfold openL; rw [if_pos hV]
  rw [hV] at hvh
  go_enter Tryz.func22, Tryz.ntmps22
  go_wp2_with fail
  rw [HW0.out]
  refine hvh.out.mono ?_
  rintro e w1 ⟨rfl, x1⟩
  have hmk := run_make (P := Tryz.prog) w1 57 67 i77 (γ #[O ι 0, O ι 0, O ι 0, O ι 0, O ι 0, O ι 0, O ι 0, O ι 0, O ι 0, O ι 0, O ι 0, O ι 0, σ none 0 0]) Tryz.underlying57 hi77 hy0 .i64 .i64 0 1 (by omega) (by omega) (by rw [hy2]; omega) (by omega)
  have S0 := World.ownsRow_made (base := w.heap.size) (e := 67) (size := 13) w1 (madeCells #[O ι 0, O ι 0, O ι 0, O ι 0, O ι 0, O ι 0, O ι 0, O ι 0, O ι 0, O ι 0, O ι 0, O ι 0, σ none 0 0] (1 * 13)) 1 (Below.size (X0.out.trans x1).bl) (by unfold maxLen; omega) (by simp [madeCells])
  have xm : Ext w1 (w1.alloc (χ (madeCells #[O ι 0, O ι 0, O ι 0, O ι 0, O ι 0, O ι 0, O ι 0, O ι 0, O ι 0, O ι 0, O ι 0, O ι 0, σ none 0 0] (1 * 13)) 67)) := (Ext.refl w1).alloc _ _
  have xx := x1.trans xm
  have XM := hide (X0.out.trans xx)
  have CM := hide (xx.box C0.out)
  have HHM := hide (HH.out.keep xx.bl)
  have HSM := hide (HS.out.ext xx)
  have HTM := hide (HT.out.ext xx)
  have BM0 := hide (xx.box B0.out)
  have BM1 := hide (xx.box B1.out)
  have BM2 := hide (xx.box B2.out)
  have BM3 := hide (xx.box B3.out)
  have HOwn := hide S0
  clear x1 xm xx S0 C0 HH HS HT B0 B1 B2 B3 X0 hvh HW0
  go_wp2_with fail
  generalize hWm : w1.alloc (χ (madeCells #[O ι 0, O ι 0, O ι 0, O ι 0, O ι 0, O ι 0, O ι 0, O ι 0, O ι 0, O ι 0, O ι 0, O ι 0, σ none 0 0] (1 * 13)) 67) = Wm at XM CM HHM HSM HTM BM0 BM1 BM2 BM3 HOwn
  have HWm := hide hWm
  clear hWm hmk
  first | rw [HWm.out] | skip
  generalize w1.heap.size = BB at HOwn ⊢
  go_loopw [6, 20] (fun o i wr => OpRel w Wm BB ss st xs sv off o i wr) (fun o i _ => 1 - (intOf i).toNat)
  case atStart => exact Or.inl ⟨rfl, rfl, by first | rfl | exact HWm.out⟩
  case round =>
   rcases hrel with ⟨rfl, rfl, rfl⟩ | ⟨rfl, hD⟩
   ·have c0 := CM.out
    have b0 := BM0.out
    have b1 := BM1.out
    have b2 := BM2.out
    have b3 := BM3.out
    have xa : Ext wr (wr.alloc (χ #[O ι st, σ s1 xs.length d1, σ s2 sv.length d2, O ι off] 30)) := (Ext.refl wr).alloc _ _
    have c0a := xa.box c0
    by_cases h1 : st < 0
    ·have hno : Hid (openL ss st xs sv off = 2) := by show openL ss st xs sv off = 2; rw [ho.out, if_neg (fun q => by have := q.1.1; omega)]
     have hd : decide (st < 0) = true := decide_eq_true h1
     go_wp2
     refine bodyPost_ret (results_tmp2 rfl _ _ _) rfl ?_
     unfold OpenOk
     rw [hno.out]
     exact ⟨_, rfl, (XM.out.trans xa).bl, Or.inl ⟨by omega, rfl⟩⟩
    have hd1 : decide (st < 0) = false := decide_eq_false h1
    by_cases h2 : (ss.length : Int) ≤ st
    ·have hno : Hid (openL ss st xs sv off = 2) := by show openL ss st xs sv off = 2; rw [ho.out, if_neg (fun q => by have := q.1.2; omega)]
     have hd : decide ((ss.length : Int) ≤ st) = true := decide_eq_true h2
     go_wp2
     refine bodyPost_ret (results_tmp2 rfl _ _ _) rfl ?_
     unfold OpenOk
     rw [hno.out]
     exact ⟨_, rfl, (XM.out.trans xa).bl, Or.inl ⟨by omega, rfl⟩⟩
    have hd2 : decide ((ss.length : Int) ≤ st) = false := decide_eq_false h2
    obtain ⟨k, rfl⟩ : ∃ k : Nat, st = (k : Int) := ⟨st.toNat, by omega⟩
    have hk : k < ss.length := by omega
    have hk0 : (0 : Int) ≤ (k : Int) := Int.natCast_nonneg _
    have hk1 : (k : Int) < (ss.length : Int) := by omega
    obtain ⟨sb0, cb0, eb0, hrow0⟩ := HHM.out
    injection eb0 with eb1 _ eb2
    subst eb1 eb2
    rcases hrow0 with h0 | ⟨bs, os, rfl, hrow⟩
    ·rw [h0] at hk; simp at hk
    obtain ⟨q0, u, q1, q2⟩ := hrow k hk
    have CVw : Hid (CV w u (ss.getD k s0).2) := by
     obtain ⟨sb9, cb9, eb9, hrow9⟩ := H00.out
     injection eb9 with eb8 _ eb7
     rcases hrow9 with h0 | ⟨b9, o9, e9, hrow9⟩
     ·rw [h0] at hk; simp at hk
     ·rw [e9] at eb8
      injection eb8 with eb8
      injection eb8 with e3 e4 _
      subst e3 e4
      obtain ⟨_, u9, hu9, cv9⟩ := hrow9 k hk
      have := (XM.out.box hu9).symm.trans q1
      injection this with this
      rw [← this]
      exact cv9
    have hcl := hl.at k hk
    have q0a := xa.box q0
    have q1a := xa.box q1
    have Q2 := hide q2
    clear hrow q2
    obtain ⟨su, cu, rfl, _⟩ := Q2.out
    have hgood : Hid (ValidV xs sv off → (GoodA ss k xs sv off ↔ inN xs sv off ((ss.getD k s0).2.length : Int) = true)) := fun hv => by
     rw [← za17 hv]
     unfold GoodA
     rw [Int.toNat_natCast]
     exact ⟨fun q => q.2.2, fun q => ⟨⟨hk0, hk1⟩, hv, q⟩⟩
    have hbadv : Hid (¬ ValidV xs sv off → ¬ GoodA ss k xs sv off) := fun q1 q2 => q1 q2.2.1
    have hsk : Hid (ss.getD (k : Int).toNat s0 = ((ss.getD k s0).1, (ss.getD k s0).2)) := by show ss.getD (k : Int).toNat s0 = _; rw [Int.toNat_natCast]
    generalize (ss.getD k s0).1 = DT at q0 q0a hsk
    generalize (ss.getD k s0).2 = cs at q1 q1a Q2 hgood hcl hsk CVw
    have xb : Ext (wr.alloc (χ #[O ι (k : Int), σ s1 xs.length d1, σ s2 sv.length d2, O ι off] 30)) ((wr.alloc (χ #[O ι (k : Int), σ s1 xs.length d1, σ s2 sv.length d2, O ι off] 30)).alloc (χ #[O ι DT, σ su cs.length cu] 41)) := (Ext.refl _).alloc _ _
    have xab := xa.trans xb
    have hfix := hide (zs7 (HSM.out.ext xab) (HTM.out.ext xab) off lx ls)
    have na := fun j => zg wr #[O ι (k : Int), σ s1 xs.length d1, σ s2 sv.length d2, O ι off] 30 wr.heap.size rfl j
    have nb := fun j => zg (wr.alloc (χ #[O ι (k : Int), σ s1 xs.length d1, σ s2 sv.length d2, O ι off] 30)) #[O ι DT, σ su cs.length cu] 41 (wr.heap.size + 1) (by simp) j
    have NA0 : Hid (((wr.alloc (χ #[O ι (k : Int), σ s1 xs.length d1, σ s2 sv.length d2, O ι off] 30)).alloc (χ #[O ι DT, σ su cs.length cu] 41)).cell? ⟨wr.heap.size, 0, none⟩ = some (O ι (k : Int))) := xb.box (na 0)
    have NB0 : Hid (((wr.alloc (χ #[O ι (k : Int), σ s1 xs.length d1, σ s2 sv.length d2, O ι off] 30)).alloc (χ #[O ι DT, σ su cs.length cu] 41)).cell? ⟨wr.heap.size + 1, 0, none⟩ = some (O ι DT)) := nb 0
    have NB1 : Hid (((wr.alloc (χ #[O ι (k : Int), σ s1 xs.length d1, σ s2 sv.length d2, O ι off] 30)).alloc (χ #[O ι DT, σ su cs.length cu] 41)).cell? ⟨wr.heap.size + 1, 1, none⟩ = some (σ su cs.length cu)) := nb 1
    have XAB := hide xab
    clear xa xb xab na nb
    by_cases hv : ValidV xs sv off
    ·have hdv : (dcValidV xs sv off) = true := dcValidV_t hv
     have hgv := hide (hgood.out hv)
     have HV := hide hv
     clear hv
     clear hgood hbadv
     go_wp2_with fail
     refine hfix.out.mono ?_
     rintro e w4 ⟨A, rfl, hA, _, x4⟩
     obtain rfl := hA HV.out
     rw [hdv]
     have p0 := x4.box NA0.out
     have p1 := x4.box NB0.out
     have p2 := x4.box NB1.out
     have X4 := hide (XAB.out.trans x4)
     clear x4 hfix NA0 NB0 NB1 XAB
     have hr := HV.out.1.2.1
     have hx4 := HV.out.1.1
     have hl2 := HV.out.2.1
     have ho2 := HV.out.2.2.1
     have hs2 := HV.out.2.2.2.1
     have xf : Ext w4 (w4.alloc (χ (vw xs sv off) 65)) := (Ext.refl w4).alloc _ _
     have hwi := hide (zd13 (cs.length : Int) ⟨by omega, by omega⟩ (w4.alloc (χ (vw xs sv off) 65)) xs sv off hx4 hr hl2 hs2 ho2)
     have p0f := xf.box p0
     have p1f := xf.box p1
     have p2f := xf.box p2
     have nf := fun j => zg w4 (vw xs sv off) 65 w4.heap.size rfl j
     have NF := hide nf
     have X5 := hide (X4.out.trans xf)
     clear xf nf hr hx4 hl2 ho2 hs2
     have HC : Hid (∀ (st dt : Int) (u : Value), openC xs sv off st dt u = [O ι xs.length, O ι (xs.getD 0 0), O ι (xs.getD 1 0), O ι (xs.getD 2 0), O ι (xs.getD 3 0), O ι (sv.getD 0 0), O ι (sv.getD 1 0), O ι (sv.getD 2 0), O ι (sv.getD 3 0), O ι off, O ι st, O ι dt, u]) := fun _ _ _ => rfl
     unfold vw at p0f p1f p2f hwi NF X5 ⊢
     generalize xs.getD 0 0 = a0 at p0f p1f p2f hwi NF X5 HC ⊢
     generalize xs.getD 1 0 = a1 at p0f p1f p2f hwi NF X5 HC ⊢
     generalize xs.getD 2 0 = a2 at p0f p1f p2f hwi NF X5 HC ⊢
     generalize xs.getD 3 0 = a3 at p0f p1f p2f hwi NF X5 HC ⊢
     generalize sv.getD 0 0 = b0 at p0f p1f p2f hwi NF X5 HC ⊢
     generalize sv.getD 1 0 = b1 at p0f p1f p2f hwi NF X5 HC ⊢
     generalize sv.getD 2 0 = b2 at p0f p1f p2f hwi NF X5 HC ⊢
     generalize sv.getD 3 0 = b3 at p0f p1f p2f hwi NF X5 HC ⊢
     cases hin : inN xs sv off (cs.length : Int) with
     | false =>
      have hno : Hid (openL ss k xs sv off = 2) := by show openL ss k xs sv off = 2; rw [ho.out, if_neg (fun q => by have := hgv.out.1 q; rw [hin] at this; cases this)]
      rw [hin] at hwi
      go_wp2_with (go_at_call 61; refine hwi.out.mono ?_; rintro e w6 ⟨rfl, x6⟩)
      refine bodyPost_ret (results_tmp2 rfl _ _ _) rfl ?_
      unfold OpenOk
      rw [hno.out]
      exact ⟨_, rfl, ((XM.out.trans X5.out).trans x6).bl, Or.inl ⟨by omega, rfl⟩⟩
     | true =>
      have hG : Hid (GoodA ss k xs sv off) := hgv.out.2 hin
      rw [hin] at hwi
      go_wp2_with fail
      refine hwi.out.mono ?_
      rintro e w6 ⟨rfl, x6⟩
      have r0 := x6.box p0f
      have r1 := x6.box p1f
      have r2 := x6.box p2f
      have f0 := x6.box (NF.out 0)
      have f1 := x6.box (NF.out 1)
      have f2 := x6.box (NF.out 2)
      have f3 := x6.box (NF.out 3)
      have f4 := x6.box (NF.out 4)
      have f5 := x6.box (NF.out 5)
      have f6 := x6.box (NF.out 6)
      have f7 := x6.box (NF.out 7)
      have f8 := x6.box (NF.out 8)
      have f9 := x6.box (NF.out 9)
      have X6 := hide (X5.out.trans x6)
      clear x6 hwi NF p0f p1f p2f
      have HO6 := hide (ze16 HOwn.out X6.out)
      have hsz6 : w.heap.size ≤ (w6.alloc (χ #[O ι xs.length, O ι a0, O ι a1, O ι a2, O ι a3, O ι b0, O ι b1, O ι b2, O ι b3, O ι off, O ι (k : Int), O ι DT, σ su cs.length cu] 67)).heap.size := Below.size ((XM.out.trans X6.out).alloc _ _).bl
      have hnew : ∀ j x, ([O ι xs.length, O ι a0, O ι a1, O ι a2, O ι a3, O ι b0, O ι b1, O ι b2, O ι b3, O ι off, O ι (k : Int), O ι DT, σ su cs.length cu] : List Value)[j]? = some x → (w6.alloc (χ #[O ι xs.length, O ι a0, O ι a1, O ι a2, O ι a3, O ι b0, O ι b1, O ι b2, O ι b3, O ι off, O ι (k : Int), O ι DT, σ su cs.length cu] 67)).cell? ((⟨w6.heap.size, 0, none⟩ : Addr).add j) = some x := fun j x hx => by
       have n1 := fun j => zg w6 #[O ι xs.length, O ι a0, O ι a1, O ι a2, O ι a3, O ι b0, O ι b1, O ι b2, O ι b3, O ι off, O ι (k : Int), O ι DT, σ su cs.length cu] 67 w6.heap.size rfl j
       rw [Addr.add_lit, Nat.zero_add, n1 j]
       simpa using hx
      have hone : ∀ x ∈ ([O ι xs.length, O ι a0, O ι a1, O ι a2, O ι a3, O ι b0, O ι b1, O ι b2, O ι b3, O ι off, O ι (k : Int), O ι DT, σ su cs.length cu] : List Value), x.oneCell' = true := fun x hx => by
       simp only [List.mem_cons, List.not_mem_nil, or_false] at hx
       rcases hx with rfl | rfl | rfl | rfl | rfl | rfl | rfl | rfl | rfl | rfl | rfl | rfl | rfl <;> rfl
      have Hsz6 := hide hsz6
      have Hnew := hide hnew
      have Hone := hide hone
      clear hsz6 hnew hone
      go_wp2_with (at_builtin; (refine wpList_append_own_at _ rfl _ _ 57 rfl w.heap.size 67 i77 (γ #[O ι 0, O ι 0, O ι 0, O ι 0, O ι 0, O ι 0, O ι 0, O ι 0, O ι 0, O ι 0, O ι 0, O ι 0, σ none 0 0]) 13 120 Tryz.underlying57 hi77 hy0 hy1 hy2 rfl (by decide) _ _ _ rfl (HO6.out.alloc _) ⟨w6.heap.size, 0, none⟩ 1 1 [O ι xs.length, O ι a0, O ι a1, O ι a2, O ι a3, O ι b0, O ι b1, O ι b2, O ι b3, O ι off, O ι (k : Int), O ι DT, σ su cs.length cu] rfl rfl Hnew.out Hone.out (by unfold maxLen; omega) (by omega) Hsz6.out ?_); intro v9 w9 hown9 hgrow9 hnil9 hat9; obtain ⟨g9, c9, rfl, hg9⟩ := zz17 hown9 (by omega); have HO9 := hide hown9; have HG9 := hide hgrow9; clear hown9 hgrow9 hnil9 hat9)
      have BEL : Bel w w9 := Below.grown ((XM.out.trans X6.out).alloc _ _).bl HG9.out Hsz6.out (fun j hj => (HOwn.out.lt j hj).1)
      have HBEL := hide BEL
      clear BEL
      go_roundw
      ·refine Or.inr ⟨by go_num, hG.out, ?_, g9, c9, σ su cs.length cu, rfl, ?_, fun j x hj => ?_⟩
       ·exact HBEL.out
       ·rw [hsk.out]
        exact CVw.out.keep HBEL.out
       ·rw [hsk.out, HC.out] at hj
        have hjl := (List.getElem?_eq_some_iff.1 hj).1
        exact (HO9.out.cellAt j (by simpa using hjl)).trans (by simpa using hj)
      ·simp [intOf]
    ·have hdv : (dcValidV xs sv off) = false := dcValidV_f hv
     have hno : Hid (openL ss k xs sv off = 2) := by show openL ss k xs sv off = 2; rw [ho.out, if_neg (hbadv.out hv)]
     clear hv
     go_wp2_with fail
     refine hfix.out.mono ?_
     rintro e w4 ⟨A, rfl, _, ⟨a0, a1, a2, a3, a4, a5, a6, a7, a8, a9, rfl⟩, x4⟩
     rw [hdv]
     go_wp2
     refine bodyPost_ret (results_tmp2 rfl _ _ _) rfl ?_
     unfold OpenOk
     rw [hno.out]
     exact ⟨_, rfl, (((XM.out.trans XAB.out).trans x4).alloc _ _).bl, Or.inl ⟨by omega, rfl⟩⟩
   ·go_wp2
    obtain ⟨hG, hB, hR⟩ := hD
    obtain ⟨g, cap', u, rfl, hR⟩ := hR
    refine bodyPost_ret (results_tmp2 rfl _ _ _) rfl ?_
    unfold OpenOk
    rw [ho.out, if_pos hG]
    exact ⟨_, rfl, hB, Or.inr ⟨rfl, g, cap', u, rfl, hR⟩⟩
end
section
open Go.ChangeShapes Go.RowKit
theorem zj3 {xs ss : List Int} {off : Int} (hv : ValidV xs ss off) : ∀ x ∈ offsL xs ss off, 0 ≤ x ∧ x < 4096 := fun x hx => by
 unfold offsL at hx
 split at hx
 ·cases hx
 ·next hz =>
  obtain ⟨hg, hl, _, _, h | h⟩ := hv
  ·exact absurd h hz
  ·exact (zg19 xs ss off hl.symm (fun n hn => (zh5 hg hz n hn).1)).2 h x hx
end
section
open Go.ChangeShapes Go.RowKit Go.Shelf
attribute [local go_sem] Oper.semAt_some
theorem KC.grown {b g : Nat} {A B : World} (hg : A.grownBy B (some g)) (h : g < b) : KC b A B :=
 ⟨hg.size, fun k o hk ho _ => (hg.block k (Array.getElem?_eq_some_iff.1 ho).1 (fun e => by cases e; omega)).trans ho⟩
theorem zx13 {xs ss : List Int} {off : Int} (hv : ValidV xs ss off) : (offsL xs ss off).length ≤ (prod xs).toNat := by
 unfold offsL
 split
 ·simp
 ·rw [zl2 xs ss off hv.2.1.symm]
  have h1 := zc1 (fun m hm => (zx hv.1 m hm).1)
  omega
end
section
open Go.ChangeShapes Go.RowKit FL
theorem zk4 : (Tryz.prog.info? 47).map (fun i => (i.zero, i.size, i.bytes)) = some (some (γ #[O ι 0, .float .f64 0, .float .f64 0]), 3, 24) := by kernel_rfl
theorem zy10 : (Tryz.prog.info? 41).map (fun i => (i.zero, i.size, i.bytes)) = some (some (γ #[O ι 0, σ none 0 0]), 2, 32) := by kernel_rfl
def c3v (c : C3) : List Value := [O ι c.1, .float .f64 c.2.1, .float .f64 c.2.2]
def flat : List C3 → List Value
 | [] => []
 | c :: cs => c3v c ++ flat cs
theorem za4 (cs : List C3) : (flat cs).length = cs.length * 3 := by
 induction cs with
 | nil => rfl
 | cons c cs ih => rw [flat, List.length_append, ih, List.length_cons]; simp [c3v]; omega
theorem zr18 (cs ds : List C3) : flat (cs ++ ds) = flat cs ++ flat ds := by
 induction cs with
 | nil => rfl
 | cons c cs ih => rw [List.cons_append, flat, flat, ih, List.append_assoc]
theorem zh4 (cs : List C3) : ∀ j, j < cs.length → (flat cs)[j * 3]? = some (O ι (cs.getD j k0).1) ∧ (flat cs)[j * 3 + 1]? = some (.float .f64 (cs.getD j k0).2.1) ∧ (flat cs)[j * 3 + 2]? = some (.float .f64 (cs.getD j k0).2.2) := by
 induction cs with
 | nil => intro j hj; simp at hj
 | cons c cs ih =>
  intro j hj
  match j with
  | 0 => exact ⟨rfl, rfl, rfl⟩
  | j + 1 =>
   have h := ih j (by simpa using hj)
   have e : ∀ i, (flat (c :: cs))[(j + 1) * 3 + i]? = (flat cs)[j * 3 + i]? := fun i => by
    rw [flat, List.getElem?_append_right (by simp [c3v]; omega)]
    congr 1
    simp [c3v]; omega
   have e0 := e 0
   rw [Nat.add_zero, Nat.add_zero] at e0
   rw [e0, e 1, e 2, List.getD_cons_succ]
   exact h
def OwnC (w' : World) (lo : Nat) (sa : Option Addr) (cs : List C3) : Prop := cs = [] ∨ ∃ g, sa = some ⟨g, 0, none⟩ ∧ lo ≤ g ∧ CRow w' g 0 cs ∧ ∀ o, w'.frozen? ⟨g, o, none⟩ = false
def CellsOk (w : World) (cs : List C3) (e : Ending) (w' : World) : Prop := ∃ (sa : Option Addr) (cap : Nat), e = .returned (σ sa cs.length cap) ∧ OwnC w' w.heap.size sa cs ∧ Below w.heap.size w w'
theorem zo3 {w : World} {base g n cap : Nat} {cs : List C3} (h : w.ownsRow base 47 3 (σ (some ⟨g, 0, none⟩) n cap) n (flat cs)) (hn : n = cs.length) : CRow w g 0 cs := fun j hj => by
 obtain ⟨a, b, c⟩ := zh4 cs j hj
 rw [Nat.zero_add]
 exact ⟨(h.cellAt _ (by omega)).trans a, (h.cellAt _ (by omega)).trans b, (h.cellAt _ (by omega)).trans c⟩
theorem zx4 {w3 : World} {lo base n : Nat} {v : Value} {cs : List C3} (hb : lo ≤ base) (h : w3.ownsRow base 47 3 v n (flat cs)) : ∃ sa cap, v = σ sa cs.length cap ∧ OwnC w3 lo sa cs := by
 have hl : n = cs.length := by have := h.1; rw [za4] at this; omega
 by_cases h0 : cs = []
 ·subst h0
  rcases h.2 with ⟨h1, h2⟩ | ⟨g, cap, cur, h1, h2, _⟩
  ·exact ⟨none, 0, by first | exact h1 | (rw [h1]; rfl), Or.inl rfl⟩
  ·exact ⟨_, _, by rw [h1, hl], Or.inl rfl⟩
 ·have hp : 0 < n := by rw [hl]; exact List.length_pos_iff.2 h0
  rcases h.2 with ⟨h1, h2⟩ | ⟨g, cap, cur, h1, h2, _⟩
  ·omega
  ·subst h1
   exact ⟨_, _, by rw [hl], Or.inr ⟨g, rfl, by omega, zo3 h hl, fun o => h.frozenAt o⟩⟩
theorem zq11 {w w' : World} {cs : List C3} (h : cs = []) (sa : Option Addr) (cap : Nat) (hB : Below w.heap.size w w') : CellsOk w cs (.returned (σ sa 0 cap)) w' := by
 subst h
 exact ⟨sa, cap, rfl, Or.inl rfl, hB⟩
theorem CellsOk.from {w w1 w' : World} {cs : List C3} {e : Ending} (hB : Below w.heap.size w w1) (h : CellsOk w1 cs e w') : CellsOk w cs e w' := by
 obtain ⟨sa, cap, h1, h2, h3⟩ := h
 refine ⟨sa, cap, h1, ?_, Bel.tr hB h3⟩
 rcases h2 with h2 | ⟨g, h4, h5, h6⟩
 ·exact Or.inl h2
 ·exact Or.inr ⟨g, h4, Nat.le_trans hB.size h5, h6⟩
def readL (ss : List St) (st : Int) (xs sv : List Int) (off : Int) : List C3 := (offsL xs sv off).map fun p => (ss.getD st.toNat s0).2.getD p.toNat k0
def readA (ss : List St) (st : Int) (xs sv : List Int) (off : Int) : List C3 := if vHeap ss = true ∧ GoodA ss st xs sv off then readL ss st xs sv off else []
theorem zc15 {w w1 w2 : World} {g : Nat} {row : Option Nat} (h : w.grownBy w1 (some g)) (k : w1.grownBy w2 row) (hr : row = some g ∨ ∃ j, row = some j ∧ w.heap.size ≤ j) : w.grownBy w2 (some g) :=
 ⟨k.os.trans h.os, k.tape.trans h.tape, k.output.trans h.output, Nat.le_trans h.size k.size, fun j hj hn => (k.block j (Nat.lt_of_lt_of_le hj h.size) (by
  rcases hr with rfl | ⟨i, rfl, hi⟩
  ·exact hn
  ·intro e; cases e; omega)).trans (h.block j hj hn)⟩
theorem zw {w w1 : World} {g : Nat} (h : w.grownBy w1 (some g)) {b o : Nat} {v : Value} (hb : b ≠ g) (hc : w.cell? ⟨b, o, none⟩ = some v) : w1.cell? ⟨b, o, none⟩ = some v := by
 rw [← hc]
 exact World.cell?_of_block (w := w) (a := ⟨b, o, none⟩) (h.block b (zl hc) (fun e => by cases e; exact hb rfl))
theorem zu12 {w w1 : World} {g : Nat} (h : w.grownBy w1 (some g)) (o : Obj) : w.grownBy (w1.alloc o) (some g) :=
 ⟨h.os, h.tape, h.output, by have := h.size; simp; omega, fun j hj hn => by
  have hs := h.size
  rw [← h.block j hj hn]
  exact ((Below.refl w1.heap.size w1).alloc (Nat.le_refl _) o).block j (by omega)⟩
theorem zd15 {w w1 : World} {r : Option Nat} (h : w.grownBy w1 r) : w.grownBy w1.drew r := ⟨h.os, h.tape, h.output, h.size, h.block⟩
theorem zp3 (c : C3) : ∀ u ∈ c3v c, u.oneCell' = true := fun u hu => by
 simp only [c3v, List.mem_cons, List.not_mem_nil, or_false] at hu
 rcases hu with rfl | rfl | rfl <;> rfl
theorem zw2 (cs : List C3) (c : C3) : flat (cs ++ [c]) = flat cs ++ c3v c := by rw [zr18]; simp [flat]
end
section
open Go.ChangeShapes Go.RowKit Go.Shelf
abbrev PlN (N : Int) := { x : Int // 0 ≤ x ∧ x < N }
def pnv {N : Int} (ps : List (PlN N)) : List Int := ps.map (·.1)
theorem zw1 {N : Int} (p q : List (PlN N)) : pnv (p ++ q) = pnv p ++ pnv q := List.map_append ..
theorem zu5 {N : Int} (p : List (PlN N)) : (pnv p).length = p.length := List.length_map ..
theorem zm9 (N : Int) (n Bf n₀ : Nat) (xs ss : List Int) (off : Int) (h4 : xs.length ≤ 4) (hl : ss.length = xs.length) (hr : InR xs xs.length) (hp : prod xs ≤ 4096) (hss : InS ss ss.length) (ho : 0 ≤ off ∧ off ≤ 4096) (hPr : ∀ x ∈ offsL xs ss off, 0 ≤ x ∧ x < N) (w : World) (hn : n₀ ≤ w.heap.size)
  (hc : ∀ j, j < 10 → w.cell? ⟨Bf, j, none⟩ = (vw xs ss off)[j]?) (hBf : Bf < w.heap.size) :
  SeqStopsK Fence.wide n Tryz.prog 65 #[π (some ⟨Bf, 0, none⟩)] (fun x : PlN N => #[Value.int .i64 x.1]) (KC n₀) (fun ys => pnv ys = offsL xs ss off) (fun pre => pnv pre <+: offsL xs ss off) (offsL xs ss off).length w := fun l J Jx W hW hJ hJx hY h0 => by
 have hbW : w.heap.size ≤ W.heap.size := hW.size
 have hc2 : ∀ j, j < 10 → W.cell? ⟨Bf, j, none⟩ = (vw xs ss off)[j]? := fun j hj => (hW.cell (p := ⟨Bf, j, none⟩) hBf).trans (hc j hj)
 have key := zm8 n l Bf W.heap.size xs ss off h4 hl hr hp hss ho (fun x => 0 ≤ x ∧ x < N) hPr (fun pre W => ∃ ps, pnv ps = pre ∧ J ps W) (fun pre W => ∃ ps, pnv ps = pre ∧ Jx ps W)
  (fun pre A B row ⟨ps, e, h⟩ hg hrow => ⟨ps, e, hJ ps A B row h hg hrow⟩)
  (fun m pre x A hx ⟨ps, e, h⟩ hlen => by
   subst e
   have hy := zw6 m (hY ps ⟨x, hx⟩ A h (by rw [← zu5]; exact hlen))
   refine hy.mono ?_
   rintro e W' (⟨rfl, h1, h2⟩ | ⟨rfl, h1⟩)
   ·exact .inl ⟨rfl, ⟨_, zw1 _ _, h1⟩, ⟨h2.size, fun k o hb h hc => h2.keep k o (by omega) h hc⟩⟩
   ·exact .inr ⟨rfl, ⟨_, zw1 _ _, h1⟩⟩)
  W (Nat.le_refl _) hc2 ⟨[], rfl, h0⟩
 refine key.mono ?_
 rintro e W' ⟨hv, ⟨ys, rfl, ps, e1, h⟩ | ⟨pre, hpre, ps, e1, h⟩⟩
 ·exact ⟨hv, .inl ⟨ps, e1, h⟩⟩
 ·exact ⟨hv, .inr ⟨ps, by show pnv ps <+: _; rw [e1]; exact hpre, h⟩⟩
theorem zq13 (N : Int) (n Bf : Nat) (xs ss : List Int) (off : Int) (h4 : xs.length ≤ 4) (hl : ss.length = xs.length) (hr : InR xs xs.length) (hp : prod xs ≤ 4096) (hss : InS ss ss.length) (ho : 0 ≤ off ∧ off ≤ 4096) (hPr : ∀ x ∈ offsL xs ss off, 0 ≤ x ∧ x < N) (W : World) (hB : Bf = W.heap.size) :
  SeqStopsK Fence.wide n Tryz.prog 65 #[π (some ⟨Bf, 0, none⟩)] (fun x : PlN N => #[Value.int .i64 x.1]) (KC (W.alloc (χ (vw xs ss off) 65)).heap.size) (fun ys => pnv ys = offsL xs ss off) (fun pre => pnv pre <+: offsL xs ss off) (offsL xs ss off).length (W.alloc (χ (vw xs ss off) 65)) := by
 subst hB
 exact zm9 N n _ _ xs ss off h4 hl hr hp hss ho hPr _ (Nat.le_refl _) (fun j _ => zg W _ 65 W.heap.size rfl j) (by simp)
attribute [local go_sem] Oper.semAt_some
structure KD (b : Nat) (A B : World) : Prop where
 size : A.heap.size ≤ B.heap.size
 keep : ∀ k c f, b ≤ k → A.heap[k]? = some (χ c 65 f) → B.heap[k]? = some (χ c 65 f)
theorem KD.refl (b : Nat) (A : World) : KD b A A := ⟨Nat.le_refl _, fun _ _ _ _ h => h⟩
theorem KD.trans {b : Nat} {A B C : World} (x : KD b A B) (y : KD b B C) : KD b A C := ⟨Nat.le_trans x.size y.size, fun k c f hb h => y.keep k c f hb (x.keep k c f hb h)⟩
theorem KD.alloc (b : Nat) (A : World) (o : Obj) : KD b A (A.alloc o) := ⟨by simp, fun k c f hb h => by
 rw [Below.heap_alloc A o k (Array.getElem?_eq_some_iff.1 h).1]; exact h⟩
theorem KD.kind {b : Nat} {A B : World} (x : KD b A B) {k : Nat} (hb : b ≤ k) (hk : ∃ c f, A.heap[k]? = some (χ c 65 f)) : ∃ c f, B.heap[k]? = some (χ c 65 f) := by
 obtain ⟨c, f, h⟩ := hk
 exact ⟨c, f, x.keep k c f hb h⟩
theorem KD.cell {b : Nat} {A B : World} (x : KD b A B) {k o : Nat} {v : Value} (hb : b ≤ k) (hk : ∃ c f, A.heap[k]? = some (χ c 65 f)) (h : A.cell? ⟨k, o, none⟩ = some v) : B.cell? ⟨k, o, none⟩ = some v := by
 obtain ⟨c, f, h1⟩ := hk
 exact (World.cell?_of_block ((x.keep k c f hb h1).trans h1.symm)).trans h
def WRelD (J : List Int → World → Prop) (b : Nat) (W1 : World) (pre M S : List Int) (d : Nat) (place t : Int) (p i : Value) (cnt : Int) (wr : World) : Prop :=
 ∃ k : Nat, i = O ι k ∧ p = O ι (place + (k : Int) * t) ∧ (k : Int) ≤ cnt ∧ J (pre ++ plK M S d place k) wr ∧ KD b W1 wr
theorem zq17 (F : Fence) (hd : F.depth = none) (h84 : F.fn 67) (hro : F.round = none) (l b N : Nat) (Pr : Int → Prop) (J Jx : List Int → World → Prop) (hJ : AbidesFrom b J)
  (hY : ∀ m pre x W, Pr x → J pre W → pre.length < N → YieldAt F m Tryz.prog l #[O ι x] W fun e W' =>
   (e = .returned (.bool true) ∧ J (pre ++ [x]) W' ∧ KD b W W') ∨ (e = .returned (.bool false) ∧ Jx (pre ++ [x]) W'))
  (M S : List Int) (off : Int) (h4 : M.length ≤ 4) (hl : S.length = M.length) (hM : ∀ m ∈ M, 0 ≤ m ∧ m ≤ 4096) (hS : ∀ t ∈ S, -4096 ≤ t ∧ t ≤ 4096) :
  ∀ (d : Nat), d ≤ M.length → ∀ (n : Nat) (place : Int) (pre : List Int) (W : World), b ≤ W.heap.size → (-(20000000 * (5 - (d : Int))) ≤ place ∧ place ≤ 20000000 * (5 - (d : Int))) → J pre W → pre.length + (plD M S d place).length ≤ N → (∀ x ∈ plD M S d place, Pr x) →
   CallsIn F n Tryz.prog 67 #[γ (vw M S off), O ι ((d : Int) - 1), O ι place, .func (.yield l) #[] #[]] W fun e W' =>
    (e = .returned (.bool true) ∧ J (pre ++ plD M S d place) W' ∧ KD b W W') ∨ (e = .returned (.bool false) ∧ ∃ q, q <+: plD M S d place ∧ Jx (pre ++ q) W') := by
 intro d
 have hdd : ∀ k : Nat, (F.depth.isSome = true → 1 ≤ k) := fun k h => by rw [hd] at h; cases h
 induction d with
 | zero =>
  intro _ n place pre W hb hp hJ0 hN hPr
  rw [zs13] at hN hPr ⊢
  have hPp : Pr place := hPr place (List.mem_singleton.2 rfl)
  clear hPr
  unfold vw
  generalize M.getD 0 0 = e0
  generalize M.getD 1 0 = e1
  generalize M.getD 2 0 = e2
  generalize M.getD 3 0 = e3
  generalize S.getD 0 0 = e4
  generalize S.getD 1 0 = e5
  generalize S.getD 2 0 = e6
  generalize S.getD 3 0 = e7
  have hJ1 : J pre (W.alloc (χ #[O ι M.length, O ι e0, O ι e1, O ι e2, O ι e3, O ι e4, O ι e5, O ι e6, O ι e7, O ι off] 65)) := hJ pre W _ none hJ0 (World.grownBy_alloc W _ none) (fun r e => by cases e)
  have hK1 := KD.alloc b W (χ #[O ι M.length, O ι e0, O ι e1, O ι e2, O ι e3, O ι e4, O ι e5, O ι e6, O ι e7, O ι off] 65)
  obtain ⟨fn, tmps, assign, body, hy, hR⟩ := hY (n - 1) pre place _ hPp hJ1 (by simp at hN; omega)
  refine callsIn_of_wp Tryz.func67 rfl h84 ?_ hro
  simp only [Tryz.ntmps67, List.size_toArray, List.length_cons, List.length_nil, Nat.reduceAdd, Nat.reduceSub, Array.replicate_succ, Array.replicate_zero, List.push_toArray, List.append_toArray, List.nil_append, List.cons_append]
  gi_wp2
  refine hR.mono ?_
  rintro e W2 (⟨rfl, hJ2, hk2⟩ | ⟨rfl, hx2⟩)
  ·gi_wp2
   go_ret
   exact .inl ⟨rfl, hJ2, hK1.trans hk2⟩
  ·gi_wp2
   go_ret
   exact .inr ⟨rfl, [place], List.prefix_refl _, hx2⟩
 | succ d ih =>
  intro hdl n place pre W hb hp hJ0 hN hPr
  have hdS : d < S.length := by omega
  have hcnt : 0 ≤ M.getD d 0 ∧ M.getD d 0 ≤ 4096 := by
   rw [List.getD_eq_getElem?_getD, List.getElem?_eq_getElem (by omega)]; exact hM _ (List.getElem_mem _)
  have hst : -4096 ≤ S.getD d 0 ∧ S.getD d 0 ≤ 4096 := by
   rw [List.getD_eq_getElem?_getD, List.getElem?_eq_getElem hdS]; exact hS _ (List.getElem_mem _)
  have n1 := fun j => zg W (vw M S off) 65 W.heap.size rfl j
  have c0 := n1 0
  have c9 := n1 9
  have hd4 : d < 4 := by omega
  have hcl : ∀ j, j < 4 → (W.alloc (χ (vw M S off) 65)).cell? ⟨W.heap.size, 1 + j, none⟩ = some (O ι (M.getD j 0)) := fun j hj => by
   obtain rfl | rfl | rfl | rfl : j = 0 ∨ j = 1 ∨ j = 2 ∨ j = 3 := by omega
   ·exact n1 1
   ·exact n1 2
   ·exact n1 3
   ·exact n1 4
  have hcs : ∀ j, j < 4 → (W.alloc (χ (vw M S off) 65)).cell? ⟨W.heap.size, 5 + j, none⟩ = some (O ι (S.getD j 0)) := fun j hj => by
   obtain rfl | rfl | rfl | rfl : j = 0 ∨ j = 1 ∨ j = 2 ∨ j = 3 := by omega
   ·exact n1 5
   ·exact n1 6
   ·exact n1 7
   ·exact n1 8
  have l1 : (W.alloc (χ (vw M S off) 65)).cell? ⟨W.heap.size, 1, none⟩ = _ := n1 1
  have l2 : (W.alloc (χ (vw M S off) 65)).cell? ⟨W.heap.size, 2, none⟩ = _ := n1 2
  have l3 : (W.alloc (χ (vw M S off) 65)).cell? ⟨W.heap.size, 3, none⟩ = _ := n1 3
  have l4 : (W.alloc (χ (vw M S off) 65)).cell? ⟨W.heap.size, 4, none⟩ = _ := n1 4
  have l5 : (W.alloc (χ (vw M S off) 65)).cell? ⟨W.heap.size, 5, none⟩ = _ := n1 5
  have l6 : (W.alloc (χ (vw M S off) 65)).cell? ⟨W.heap.size, 6, none⟩ = _ := n1 6
  have l7 : (W.alloc (χ (vw M S off) 65)).cell? ⟨W.heap.size, 7, none⟩ = _ := n1 7
  have l8 : (W.alloc (χ (vw M S off) 65)).cell? ⟨W.heap.size, 8, none⟩ = _ := n1 8
  have qn := hcl d hd4
  have qt := hcs d hd4
  have hJ1 : J pre (W.alloc (χ (vw M S off) 65)) := hJ pre W _ none hJ0 (World.grownBy_alloc W _ none) (fun r e => by cases e)
  have hK1 := KD.alloc b W (χ (vw M S off) 65)
  have HKD : Hid (∃ c f, (W.alloc (χ (vw M S off) 65)).heap[W.heap.size]? = some (χ c 65 f)) := ⟨_, _, heap_alloc_new W _⟩
  rw [zt13 M S d place (by omega) hdS] at hN hPr ⊢
  have hPk : Hid (∀ k : Nat, k < (M.getD d 0).toNat → ∀ x ∈ plD M S d (place + (k : Int) * S.getD d 0), Pr x) := fun k hk x hx => hPr x (List.mem_flatMap.2 ⟨k, List.mem_range.2 hk, hx⟩)
  clear hPr
  have hIH := hide (fun n place pre W => ih (by omega) n place pre W)
  clear ih n1 hcl hcs
  have Hk : Hid (plK M S d place (M.getD d 0).toNat = (List.range (M.getD d 0).toNat).flatMap fun (i : Nat) => plD M S d (place + (i : Int) * S.getD d 0)) := rfl
  rw [← Hk.out] at hN ⊢
  clear Hk
  have hks : Hid (∀ k, plK M S d place (k + 1) = plK M S d place k ++ plD M S d (place + (k : Int) * S.getD d 0)) := fun k => zr13 M S d place k
  unfold vw at HKD hJ1 hK1 qn qt c0 c9 l1 l2 l3 l4 l5 l6 l7 l8 hIH ⊢
  refine callsIn_of_wp Tryz.func67 rfl h84 ?_ hro
  simp only [Tryz.ntmps67, List.size_toArray, List.length_cons, List.length_nil, Nat.reduceAdd, Nat.reduceSub, Array.replicate_succ, Array.replicate_zero, List.push_toArray, List.append_toArray, List.nil_append, List.cons_append]
  generalize hcn : M.getD d 0 = cnt at *
  generalize hct : S.getD d 0 = t at *
  generalize M.getD 0 0 = e0 at *
  generalize M.getD 1 0 = e1 at *
  generalize M.getD 2 0 = e2 at *
  generalize M.getD 3 0 = e3 at *
  generalize S.getD 0 0 = e4 at *
  generalize S.getD 1 0 = e5 at *
  generalize S.getD 2 0 = e6 at *
  generalize S.getD 3 0 = e7 at *
  have hax : ((d + 1 : Nat) : Int) - 1 = (d : Int) := by omega
  rw [hax]
  clear hax
  have hd0 : (0 : Int) ≤ (d : Int) := Int.natCast_nonneg _
  have hdi : (d : Int) < 4 := by omega
  generalize hW1 : W.alloc (χ #[O ι M.length, O ι e0, O ι e1, O ι e2, O ι e3, O ι e4, O ι e5, O ι e6, O ι e7, O ι off] 65) = W1 at *
  have hdn : ¬ (d : Int) < 0 := by omega
  gi_wp2
  try simp only [decide_eq_false hdn]
  have hNN := hide hN
  clear hdn hN
  have S0 : WRelD J b W1 pre M S d place t (O ι place) (O ι 0) cnt W1 := ⟨0, rfl, by simp, hcnt.1, by simpa [plK] using hJ1, KD.refl _ _⟩
  have HS0 := hide S0
  clear S0 hJ1
  gi_loopw [2, 19] (fun p i wr => WRelD J b W1 pre M S d place t p i cnt wr) (fun p i _ => (cnt - intOf i).toNat)
  case atStart => exact HS0.out
  case round =>
   obtain ⟨k, rfl, rfl, hk, hJk, hKk⟩ := hrel
   have c0' := hKk.cell hb HKD.out c0
   have c9' := hKk.cell hb HKD.out c9
   have l1' := hKk.cell hb HKD.out l1
   have l2' := hKk.cell hb HKD.out l2
   have l3' := hKk.cell hb HKD.out l3
   have l4' := hKk.cell hb HKD.out l4
   have l5' := hKk.cell hb HKD.out l5
   have l6' := hKk.cell hb HKD.out l6
   have l7' := hKk.cell hb HKD.out l7
   have l8' := hKk.cell hb HKD.out l8
   by_cases hlt : (k : Int) < cnt
   ·have hkt : -16777216 ≤ (k : Int) * t ∧ (k : Int) * t ≤ 16777216 := by
     have := zu1 (k : Int) 4097 t (by omega) (by omega)
     omega
    have hle : (plK M S d place k).length + (plD M S d (place + (k : Int) * t)).length ≤ (plK M S d place cnt.toNat).length := by
     rw [← List.length_append, ← hks.out]
     exact zz18 M S d place (by omega)
    have hcall := (hIH.out (n - 1) (place + (k : Int) * t) (pre ++ plK M S d place k) wr (Nat.le_trans hb (by have := hKk.size; rw [← hW1] at this; simp at this; omega)) (by omega) hJk (by have := hNN.out; rw [List.length_append]; omega) (hPk.out k (by omega)))
    have hpf : ∀ q, q <+: plD M S d (place + (k : Int) * t) → plK M S d place k ++ q <+: plK M S d place cnt.toNat := fun q hq => by
     refine List.IsPrefix.trans ?_ (zw5 M S d place (show k + 1 ≤ cnt.toNat by omega))
     rw [hks.out]
     exact (List.prefix_append_right_inj _).2 hq
    have hks1 := hide (hks.out k)
    have Hpf := hide hpf
    generalize hQ : plD M S d (place + (k : Int) * t) = PD at hcall Hpf hks1
    clear hQ hpf hle
    generalize hI : place + (k : Int) * t = I at hcall ⊢
    have HI := hide hI
    have hIb : -100000000 ≤ I ∧ I ≤ 100000000 := by omega
    clear hI
    have qtk := hKk.cell hb HKD.out qt
    have HKW := hide (hKk.kind hb HKD.out)
    have HC := hide (hcall.mono (R' := fun e W3 => (e = .returned (.bool true) ∧ J (pre ++ plK M S d place k ++ PD) W3 ∧ KD b wr W3 ∧ W3.cell? ⟨W.heap.size, 5 + d, none⟩ = some (O ι t)) ∨ (e = .returned (.bool false) ∧ ∃ q, q <+: PD ∧ Jx (pre ++ plK M S d place k ++ q) W3)) (fun e W3 h => h.elim (fun ⟨he, hj, hk⟩ => .inl ⟨he, hj, hk, hk.cell hb HKW.out qtk⟩) .inr))
    clear hcall
    gi_wp2_with ((try refine ⟨hdd _, ?_⟩); gi_at_call 67; refine HC.out.mono ?_; clear HC; rintro e W3 (⟨rfl, hJ3, hk3, qt3⟩ | ⟨rfl, q, hq, hx3⟩))
    ·go_roundw
     ·refine ⟨k + 1, by go_num, ?_, by omega, ?_, hKk.trans hk3⟩
      ·rw [← HI.out]
       congr 1
       rw [Int.natCast_add, Int.add_mul]
       omega
      ·rw [hks1.out, ← List.append_assoc]; exact hJ3
     ·simp [intOf]; omega
    ·go_ret
     exact .inr ⟨rfl, plK M S d place k ++ q, Hpf.out q hq, by rw [← List.append_assoc]; exact hx3⟩
   ·have hkk : (k : Int) = cnt := by omega
    have hkn : cnt.toNat = k := by omega
    have Hkn := hide hkn
    have hK2 := hide (hK1.trans hKk)
    have HJk := hide hJk
    clear hkn hJk hKk
    gi_wp2
    go_ret
    exact .inl ⟨rfl, by rw [Hkn.out]; exact HJk.out, hK2.out⟩
theorem zb10 (l b : Nat) (xs ss : List Int) (off : Int) (h4 : xs.length ≤ 4) (hl : ss.length = xs.length) (hr : InR xs xs.length) (hz : prod xs ≠ 0) (hp : prod xs ≤ 4096) (hss : InS ss ss.length) (ho : 0 ≤ off ∧ off ≤ 4096) (Pr : Int → Prop) (hPr : ∀ x ∈ offsL xs ss off, Pr x) (J Jx : List Int → World → Prop) (hJ : AbidesFrom b J)
  (hY : ∀ m pre x W, Pr x → J pre W → pre.length < (offsL xs ss off).length → YieldAt Fence.wide m Tryz.prog l #[O ι x] W fun e W' =>
   (e = .returned (.bool true) ∧ J (pre ++ [x]) W' ∧ KD b W W') ∨ (e = .returned (.bool false) ∧ Jx (pre ++ [x]) W'))
  (n : Nat) (W : World) (hb : b ≤ W.heap.size) (h0 : J [] W) :
  CallsIn Fence.wide n Tryz.prog 67 #[γ (vw (mrg xs ss).1.reverse (mrg xs ss).2.reverse off), O ι (((mrg xs ss).1.reverse.length : Int) - 1), O ι off, .func (.yield l) #[] #[]] W fun e W' =>
    (e = .returned (.bool true) ∧ J (offsL xs ss off) W') ∨ (e = .returned (.bool false) ∧ ∃ q, q <+: offsL xs ss off ∧ Jx q W') := by
 have hpos := zl4 hr hz
 have hM := zo9 xs ss hl.symm hpos
 have hle := zn12 _ hM.2
 have hlen := zy5 xs ss hl.symm
 have hlen4 := zz4 xs ss hl.symm
 have hl4 : (mrg xs ss).1.reverse.length ≤ 4 := by rw [List.length_reverse]; omega
 have hpl : plD (mrg xs ss).1.reverse (mrg xs ss).2.reverse (mrg xs ss).1.reverse.length off = offsL xs ss off := by
  unfold plD offsL
  rw [if_neg hz, List.take_length, List.length_reverse, hlen, ← List.length_reverse, List.take_length, List.reverse_reverse, List.reverse_reverse]
  exact zv5 xs ss off hl.symm (fun k hk => by have := hpos k hk; omega)
 have key := zq17 Fence.wide rfl trivial rfl l b (offsL xs ss off).length Pr J Jx hJ hY (mrg xs ss).1.reverse (mrg xs ss).2.reverse off (by simp; omega) (by simp [hlen])
  (fun m hm => by
   have h1 := hM.2 m (List.mem_reverse.1 hm)
   have h2 := hle.2 m (List.mem_reverse.1 hm)
   rw [hM.1] at h2
   omega)
  (fun t ht => by
   obtain ⟨j, hj, e⟩ := zl3 (zm4 xs ss t (List.mem_reverse.1 ht))
   have := hss j hj
   omega)
  (mrg xs ss).1.reverse.length (Nat.le_refl _) n off [] W hb (by omega) h0 (by rw [hpl]; simp) (by rw [hpl]; exact hPr)
 rw [hpl] at key
 refine key.mono ?_
 rintro e W' (⟨rfl, h, _⟩ | ⟨rfl, q, hq, h⟩)
 ·exact .inl ⟨rfl, by simpa using h⟩
 ·exact .inr ⟨rfl, q, hq, by simpa using h⟩
theorem zh12 (n l Bf b : Nat) (xs ss : List Int) (off : Int) (h4 : xs.length ≤ 4) (hl : ss.length = xs.length) (hr : InR xs xs.length) (hp : prod xs ≤ 4096) (hss : InS ss ss.length) (ho : 0 ≤ off ∧ off ≤ 4096) (Pr : Int → Prop) (hPr : ∀ x ∈ offsL xs ss off, Pr x) (J Jx : List Int → World → Prop) (hJ : AbidesFrom b J)
  (hY : ∀ m pre x W, Pr x → J pre W → pre.length < (offsL xs ss off).length → YieldAt Fence.wide m Tryz.prog l #[O ι x] W fun e W' =>
   (e = .returned (.bool true) ∧ J (pre ++ [x]) W' ∧ KD b W W') ∨ (e = .returned (.bool false) ∧ Jx (pre ++ [x]) W'))
  (W : World) (hb : b ≤ W.heap.size) (hc : ∀ j, j < 10 → W.cell? ⟨Bf, j, none⟩ = (vw xs ss off)[j]?) (h0 : J [] W) :
  CallsIn Fence.wide n Tryz.prog 65 #[.func (.yield l) #[] #[], π (some ⟨Bf, 0, none⟩)] W fun e W' => (∃ v, e = .returned v) ∧
   ((∃ ys, ys = offsL xs ss off ∧ J ys W') ∨ (∃ pre, pre <+: offsL xs ss off ∧ Jx pre W')) := by
 have c0 : W.cell? ⟨Bf, 0, none⟩ = some (O ι xs.length) := hc 0 (by omega)
 have c1 : W.cell? ⟨Bf, 1, none⟩ = some (O ι (xs.getD 0 0)) := hc 1 (by omega)
 have c2 : W.cell? ⟨Bf, 2, none⟩ = some (O ι (xs.getD 1 0)) := hc 2 (by omega)
 have c3 : W.cell? ⟨Bf, 3, none⟩ = some (O ι (xs.getD 2 0)) := hc 3 (by omega)
 have c4 : W.cell? ⟨Bf, 4, none⟩ = some (O ι (xs.getD 3 0)) := hc 4 (by omega)
 have c5 : W.cell? ⟨Bf, 5, none⟩ = some (O ι (ss.getD 0 0)) := hc 5 (by omega)
 have c6 : W.cell? ⟨Bf, 6, none⟩ = some (O ι (ss.getD 1 0)) := hc 6 (by omega)
 have c7 : W.cell? ⟨Bf, 7, none⟩ = some (O ι (ss.getD 2 0)) := hc 7 (by omega)
 have c8 : W.cell? ⟨Bf, 8, none⟩ = some (O ι (ss.getD 3 0)) := hc 8 (by omega)
 have c9 : W.cell? ⟨Bf, 9, none⟩ = some (O ι off) := hc 9 (by omega)
 have hcnt : Hid (Calls Tryz.prog 23 #[γ (shp xs)] W fun e W1 => e = .returned (O ι (prod xs)) ∧ Ext W W1) := (zp1 W xs h4 hr).mono (fun e W1 h => ⟨h.1, by rw [h.2]; exact (Ext.refl W).alloc _ _⟩)
 have hmgd := hide (fun W => zo8 W xs ss off h4 hl hr hss)
 have hwk := hide (fun hz n W hb h0 => zb10 l b xs ss off h4 hl hr hz hp hss ho Pr hPr J Jx hJ hY n W hb h0)
 have hl4 : (mrg xs ss).1.reverse.length ≤ 4 := by rw [List.length_reverse]; have := zz4 xs ss hl.symm; omega
 clear hY hc
 have hOz : prod xs = 0 → offsL xs ss off = [] := fun h => by unfold offsL; rw [if_pos h]
 generalize offsL xs ss off = OL at *
 unfold shp at hcnt
 unfold vw at hmgd hwk
 generalize (mrg xs ss).1.reverse = M at *
 generalize (mrg xs ss).2.reverse = S at *
 generalize xs.getD 0 0 = a0 at *
 generalize xs.getD 1 0 = a1 at *
 generalize xs.getD 2 0 = a2 at *
 generalize xs.getD 3 0 = a3 at *
 generalize ss.getD 0 0 = s0 at *
 generalize ss.getD 1 0 = s1 at *
 generalize ss.getD 2 0 = s2 at *
 generalize ss.getD 3 0 = s3 at *
 generalize M.getD 0 0 = m0 at *
 generalize M.getD 1 0 = m1 at *
 generalize M.getD 2 0 = m2 at *
 generalize M.getD 3 0 = m3 at *
 generalize S.getD 0 0 = t0 at *
 generalize S.getD 1 0 = t1 at *
 generalize S.getD 2 0 = t2 at *
 generalize S.getD 3 0 = t3 at *
 generalize hML : M.length = ml at *
 clear hML
 generalize hp0 : prod xs = p at *
 clear hp0
 have Hr := hide hr
 clear hr hss
 refine callsIn_of_wp Tryz.func65 rfl trivial ?_ rfl
 simp only [Tryz.ntmps65, List.size_toArray, List.length_cons, List.length_nil, Nat.reduceAdd, Nat.reduceSub, Array.replicate_succ, Array.replicate_zero, List.push_toArray, List.append_toArray, List.nil_append, List.cons_append]
 have hdd : ∀ k : Nat, (Fence.wide.depth.isSome = true → 1 ≤ k) := fun k h => by cases h
 by_cases hz : p = 0
 ·have HO := hide (hOz hz)
  clear hOz hwk hmgd
  gi_wp2_with (refine ⟨trivial, hdd _, ?_⟩; gi_at_call 23; refine (callsIn_wide.2 hcnt.out).mono ?_; clear hcnt; rintro e W1 ⟨rfl, x1⟩)
  refine bodyPost_ret (results_none rfl _ _ _) rfl ?_
  exact ⟨⟨_, rfl⟩, .inl ⟨[], HO.out.symm, hJ [] _ _ none h0 (zg3 x1) (fun r e => by cases e)⟩⟩
 ·have hw := hide (hwk.out hz)
  clear hOz hwk
  gi_wp2_with (refine ⟨trivial, hdd _, ?_⟩; gi_at_call 23; refine (callsIn_wide.2 hcnt.out).mono ?_; clear hcnt; rintro e W1 ⟨rfl, x1⟩; have d0 := x1.box c0; have d1 := x1.box c1; have d2 := x1.box c2; have d3 := x1.box c3; have d4 := x1.box c4; have d5 := x1.box c5; have d6 := x1.box c6; have d7 := x1.box c7; have d8 := x1.box c8; have d9 := x1.box c9)
  refine ⟨trivial, hdd _, ?_⟩
  refine (callsIn_wide.2 (hmgd.out _)).mono ?_
  rintro e W2 ⟨rfl, x2⟩
  have hJ2 := hide (hJ [] _ _ none (hJ [] _ _ none h0 (zg3 x1) (fun r e => by cases e)) (zg3 x2) (fun r e => by cases e))
  have hs1 := x1.bl.size
  have hs2 := x2.bl.size
  clear hmgd d0 d1 d2 d3 d4 d5 d6 d7 d8 d9 c0 c1 c2 c3 c4 c5 c6 c7 c8 c9
  gi_wp2
  refine ⟨trivial, hdd _, ?_⟩
  refine (hw.out _ _ (by simp; omega) (hJ [] _ _ none hJ2.out (World.grownBy_alloc W2 _ none) (fun r e => by cases e))).mono ?_
  rintro e W3 (⟨rfl, hJ3⟩ | ⟨rfl, q, hq, hx⟩)
  ·gi_wp2
   go_end0
   exact ⟨⟨_, rfl⟩, .inl ⟨_, rfl, hJ3⟩⟩
  ·gi_wp2
   go_end0
   exact ⟨⟨_, rfl⟩, .inr ⟨q, hq, hx⟩⟩
theorem zx7 (N : Int) (n Bf n₀ : Nat) (xs ss : List Int) (off : Int) (h4 : xs.length ≤ 4) (hl : ss.length = xs.length) (hr : InR xs xs.length) (hp : prod xs ≤ 4096) (hss : InS ss ss.length) (ho : 0 ≤ off ∧ off ≤ 4096) (hPr : ∀ x ∈ offsL xs ss off, 0 ≤ x ∧ x < N) (w : World) (hn : n₀ ≤ w.heap.size)
  (hc : ∀ j, j < 10 → w.cell? ⟨Bf, j, none⟩ = (vw xs ss off)[j]?) (hBf : Bf < w.heap.size) :
  SeqStopsK Fence.wide n Tryz.prog 65 #[π (some ⟨Bf, 0, none⟩)] (fun x : PlN N => #[Value.int .i64 x.1]) (KD n₀) (fun ys => pnv ys = offsL xs ss off) (fun pre => pnv pre <+: offsL xs ss off) (offsL xs ss off).length w := fun l J Jx W hW hJ hJx hY h0 => by
 have hbW : w.heap.size ≤ W.heap.size := hW.size
 have hc2 : ∀ j, j < 10 → W.cell? ⟨Bf, j, none⟩ = (vw xs ss off)[j]? := fun j hj => (hW.cell (p := ⟨Bf, j, none⟩) hBf).trans (hc j hj)
 have key := zh12 n l Bf W.heap.size xs ss off h4 hl hr hp hss ho (fun x => 0 ≤ x ∧ x < N) hPr (fun pre W => ∃ ps, pnv ps = pre ∧ J ps W) (fun pre W => ∃ ps, pnv ps = pre ∧ Jx ps W)
  (fun pre A B row ⟨ps, e, h⟩ hg hrow => ⟨ps, e, hJ ps A B row h hg hrow⟩)
  (fun m pre x A hx ⟨ps, e, h⟩ hlen => by
   subst e
   have hy := zw6 m (hY ps ⟨x, hx⟩ A h (by rw [← zu5]; exact hlen))
   refine hy.mono ?_
   rintro e W' (⟨rfl, h1, h2⟩ | ⟨rfl, h1⟩)
   ·exact .inl ⟨rfl, ⟨_, zw1 _ _, h1⟩, ⟨h2.size, fun k c f hb h => h2.keep k c f (by omega) h⟩⟩
   ·exact .inr ⟨rfl, ⟨_, zw1 _ _, h1⟩⟩)
  W (Nat.le_refl _) hc2 ⟨[], rfl, h0⟩
 refine key.mono ?_
 rintro e W' ⟨hv, ⟨ys, rfl, ps, e1, h⟩ | ⟨pre, hpre, ps, e1, h⟩⟩
 ·exact ⟨hv, .inl ⟨ps, e1, h⟩⟩
 ·exact ⟨hv, .inr ⟨ps, by show pnv ps <+: _; rw [e1]; exact hpre, h⟩⟩
end
section
open Go.ChangeShapes Go.RowKit Go.Shelf
theorem zd22 {P : Program} {l n : Nat} {o : Oper} {a : Act} {w : World} {K : Act → World → Prop} {Q : Exit → Act → World → Prop} (hd : ∀ c, o.op ≠ .defer c) (h : o.wp P a w K Q) : o.wpIn (Fence.wide.inRound l) n P a w K Q := by
 refine ⟨fun _ _ => trivial, ?_⟩
 rw [Oper.semAt_eq _ _ _ hd]
 unfold Oper.wp at h
 generalize (execOp a.eval o).run P w = r at h
 cases r with
 | ok x w' =>
  cases x <;> simp only [Oper.upon, Oper.uponIn] at h ⊢ <;>
   first
    | exact h
    | exact ⟨fun e => by simp [Fence.wide] at e, CallsIn.inRound l (callsIn_wide.2 h)⟩
    | exact ⟨fun e => by simp [Fence.wide] at e, fun c cs _ => (by obtain ⟨v, w', r, s⟩ := h c cs; exact ⟨v, w', r, stepsIn_wide.2 s⟩)⟩
    | exact h.elim
 | halt x w' => cases x <;> simp only [Oper.upon, Oper.uponIn] at h ⊢ <;> first | exact h | exact h.elim
def noDefer (o : Oper) : Bool := match o.op with | .defer _ => false | _ => true
theorem zk14 {P : Program} {md : Region.Mode} {l n : Nat} {ops : Array Oper} {Q : Exit → Act → World → Prop} (hn : ¬ LetsOut Q) (hd : ops.toList.all noDefer = true) : ∀ (fuel : Nat) (listed : Array Bool) (a : Act) (w : World), wpAny P md ops Q fuel listed a w → wpAnyIn (Fence.wide.inRound l) n P md ops Q fuel listed a w
 | 0, _, _, _, h => h
 | fuel + 1, listed, a, w, h => ⟨h.1, fun i hi => by
  have h2 := h.2 i hi
  unfold wpOp at h2
  unfold wpOpIn
  cases ho : ops[i]? with
  | none => rw [ho] at h2; exact zk14 hn hd fuel _ _ _ h2
  | some o =>
   rw [ho] at h2
   have hdo : ∀ c, o.op ≠ .defer c := fun c e => by
    have hm : o ∈ ops.toList := by
     rw [Array.mem_toList_iff]
     exact Array.mem_of_getElem? ho
    have := List.all_eq_true.1 hd o hm
    unfold noDefer at this
    rw [e] at this
    cases this
   dsimp only at h2 ⊢
   by_cases hw : Region.wanted o (yielded ops a.tmps) = true
   ·rw [if_pos hw] at h2 ⊢
    rcases h2 with h2 | ⟨_, h2⟩
    ·exact Oper.wpIn_mono (fun a' w' h' => zk14 hn hd fuel _ _ _ h') (zd22 hdo h2)
    ·exact absurd h2 hn
   ·rw [if_neg hw] at h2 ⊢
    exact ⟨fun _ _ => trivial, zk14 hn hd fuel _ _ _ h2⟩⟩
def NQ (Q : Exit → Act → World → Prop) : Exit → Act → World → Prop := fun e a w => e = .normal ∧ Q .normal a w
theorem zq21 (Q : Exit → Act → World → Prop) : ¬ LetsOut (NQ Q) := by
 rintro ⟨a, w, e, _⟩
 cases e
theorem zh10 {P : Program} {id n l : Nat} {ops : Array Oper} {Q : Exit → Act → World → Prop} {S : World → Prop} {a : Act} {w : World} (hm : P.follows .mixedOrders = true) (hd : ops.toList.all noDefer = true)
  (h : wpAnyH P .any ops (NQ Q) S ops.size (Array.replicate ops.size false) a w.drew) : (Code.region id ops true).wpIn (Fence.wide.inRound l) n P Q a w :=
 wpIn_mono (wpIn_region_any hm (zk14 (zq21 Q) hd _ _ _ _ (wpAny_of_held _ _ _ _ h))) (fun e a w h => by obtain ⟨rfl, h⟩ := h; exact h)
theorem zq1 {P : Program} {w : World} {ops : Array Oper} {o : Oper} {a : Act} {K : Act → World → Prop} {Q : Exit → Act → World → Prop} {E : Prop}
  (hg : o.guard = none) (s x : Operand) (t : TypeId) (hop : o.op = Op.call { callee := Callee.builtin Builtin.append, args := #[s, x], argTypes := #[t, t] })
  (base : Nat) (e : TypeId) (i : TypeInfo) (size : Nat) (h1 : P.underlying t = some (.slice e)) (h2 : P.info? e = some i) (h4 : i.size = size)
  (g k cap : Nat) (xs : List Value) (hs : a.eval s = σ (some ⟨g, 0, none⟩) k cap) (hown : w.ownsRow base e size (σ (some ⟨g, 0, none⟩) k cap) k xs) (ad : Addr) (m c : Nat) (news : List Value) (hx : a.eval x = σ (some ad) m c) (hn : news.length = m * size)
  (hc : ∀ j u, news[j]? = some u → w.cell? (ad.add j) = some u) (h1c : ∀ u ∈ news, u.oneCell' = true) (b1 : k + m ≤ cap)
  (hK : ∀ w', w'.ownsRow base e size (σ (some ⟨g, 0, none⟩) (k + m) cap) (k + m) (xs ++ news) → w.grownBy w' (some g) → K (a.put o.dst (σ (some ⟨g, 0, none⟩) (k + m) cap)) w') :
  if Region.wanted o (yielded ops a.tmps) = true then Oper.wp P o a w K Q else E := by
 have hw : Region.wanted o (yielded ops a.tmps) = true := by simp [Region.wanted, hg]
 rw [if_pos hw]
 obtain ⟨w', hrun, r1, r2⟩ := run_append_fits (P := P) w base t o.type e i size h1 h2 h4 g k cap xs hown ad m c news hn hc h1c b1
 unfold Oper.wp
 simp [execOp, hop, resolve, invoke, builtin, hs, hx, hrun, Result.andThen]
 exact hK _ r1 r2
end
end Go.Proofs.YtjbbodfdpbcnhaaGreat
