import Derived.Test.YtfhcpicddegblaaGreatM4
import Derived.Test.YtfhcpicddegblaaGreatSpecVV
import Derived.Test.YtfhcpicddegblaaGreatM1
import Derived.Maps.AppendAt
import Derived.Deep.RegionHeld3
import Derived.Deep.AppendLies
import Derived.BigRegion
import Derived.RegionTactic
import Derived.BigRegionIn
import Derived.OwnWalk
set_option linter.unusedSimpArgs false
set_option linter.unusedVariables false
set_option maxRecDepth 100000
set_option maxHeartbeats 8000000
namespace Go.Proofs.YtfhcpicddegblaaGreat
open Go.Value renaming int → O, slice → σ, pointer → π, agg → γ
open Go.IntKind renaming i64 → ι
open Go.Obj renaming cells → χ
section
open Go.ChangeShapes Go.RowKit
theorem zs21 {w w' : World} {L : List Int} (h : L = []) (sa : Option Addr) (cap : Nat) (hB : Below w.heap.size w w') : ListOk w L (.returned (σ sa 0 cap)) w' := by
 subst h
 exact ⟨sa, cap, rfl, Or.inl rfl, hB⟩
theorem ListOk.from {w w1 w' : World} {L : List Int} {e : Ending} (hB : Below w.heap.size w w1) (h : ListOk w1 L e w') : ListOk w L e w' := by
 obtain ⟨sa, cap, h1, h2, h3⟩ := h
 refine ⟨sa, cap, h1, ?_, hB.trans (h3.mono hB.size)⟩
 rcases h2 with h2 | ⟨g, h4, h5, h6⟩
 ·exact Or.inl h2
 ·exact Or.inr ⟨g, h4, Nat.le_trans hB.size h5, h6⟩
theorem zi2 {w : World} {vS vT : Value} {xs ss : List Int} (hS : Ints w vS xs) (hT : Ints w vT ss) (off : Int) (hv : ValidV xs ss off) :
  Calls Tryz.prog 68 #[γ #[vS, vT, O ι off]] w fun e w' => ListOk w (offsL xs ss off) e w' := by
 obtain ⟨hg, hl, ho, hin, _⟩ := hv
 have x0 : Ext w (w.alloc (χ #[vS, vT, O ι off] 39)) := (Ext.refl w).alloc _ _
 have X0 := hide x0.bl
 have HS := hide (hS.ext x0)
 have HT := hide (hT.ext x0)
 have n1 := fun j => zd w #[vS, vT, O ι off] 39 w.heap.size rfl j
 have k0 := n1 0
 have k1 := n1 1
 have k2 := n1 2
 clear n1 x0
 obtain ⟨sa, cap, rfl, _⟩ := hS
 obtain ⟨ta, dap, rfl, _⟩ := hT
 have hcn : cntL xs = prod xs := if_pos hg
 have hx4 := hg.1
 have hpb := zp3 xs xs.length hg.1 (Nat.le_refl _) hg.2.1
 rw [List.take_length] at hpb
 have hOz : Hid (prod xs = 0 → offsL xs ss off = []) := fun h => by unfold offsL; rw [if_pos h]
 have hpl : Hid (prod xs ≠ 0 → ∀ w, Ints w (σ sa xs.length cap) xs → Ints w (σ ta ss.length dap) ss → Calls Tryz.prog 106 #[γ #[σ sa xs.length cap, σ ta ss.length dap, O ι off], O ι 0, O ι off] w fun e w' => ListOk w (offsL xs ss off) e w') := fun hz w h1 h2 => by
  have hst : ∀ s ∈ ss, -4096 ≤ s ∧ s ≤ 4096 := fun s hs => by
   obtain ⟨j, hj, rfl⟩ := zm3 hs
   exact hin j hj
  have hpln : plen xs ≤ 4096 := by
   have h1 := zw (fun m hm => (zy hg m hm).1)
   have h2 := hg.2.2
   omega
  have key := zp8 xs ss hl.symm hx4 (zg1 hg hz) hst off _ _ xs.length 0 (by omega) w off h1 h2 (by rw [List.drop_zero]; exact hpln) (by omega)
  rw [List.drop_zero, List.drop_zero] at key
  unfold offsL
  rw [if_neg hz]
  exact key
 have Hcnt := hide (zn2 HS.out (by omega))
 rw [hcn] at Hcnt
 have Hg := hide hg
 clear hg hcn hin hl
 go_enter Tryz.func68, Tryz.ntmps68
 go_wp2_with fail
 generalize hW0 : w.alloc (χ #[σ sa xs.length cap, σ ta ss.length dap, O ι off] 39) = W0 at X0 HS HT k0 k1 k2 Hcnt ⊢
 clear hW0
 refine Hcnt.out.mono ?_
 clear Hcnt
 rintro e w' ⟨rfl, rfl⟩
 generalize prod xs = P at *
 by_cases hz : P = 0
 ·have HO := hide (hOz.out hz)
  subst hz
  clear hpl hOz
  go_wp2
  go_ret
  exact zs21 HO.out _ _ (by first | exact X0.out | exact X0.out.alloc X0.out.size _)
 ·have HP := hide (hpl.out hz _ HS.out HT.out)
  have hPn : (P == 0) = false := by simp [hz]
  clear hpl hOz
  go_wp2_with (go_at_call 106; refine HP.out.mono ?_; intro e w2 hok; obtain ⟨sa2, cap2, rfl, hok2⟩ := hok)
  go_ret
  exact ListOk.from X0.out ⟨sa2, cap2, rfl, hok2⟩
def offsA (xs ss : List Int) (off : Int) : List Int := if ValidV xs ss off then offsL xs ss off else []
end
section
open Go.ChangeShapes Go.RowKit FL
def cellB (dt : Int) (c : C3) : Bool := validB dt c.1 c.2.1 c.2.2
theorem zi10 (dt : Int) (cs : List C3) : vStore (dt, cs) = (isDtB dt && decide (cs.length ≤ 4096) && cs.all (cellB dt)) := rfl
theorem zv7 {w : World} {v : Value} {cs : List C3} (dt : Int) (h : CV w v cs) (hg : CG cs) (hl : cs.length ≤ 1048576) :
  Calls Tryz.prog 114 #[γ #[O ι dt, v]] w fun e w' => e = .returned (.bool (vStore (dt, cs))) ∧ Ext w w' := by
 rw [zi10]
 obtain ⟨sa, cap, rfl, hx⟩ := h
 have x0 : Hid (Ext w (w.alloc (χ #[O ι dt, σ sa cs.length cap] 123))) := (Ext.refl w).alloc _ _
 have HX := hide hx
 clear hx
 cases hd : isDtB dt with
 | false =>
  have Hd := hide hd
  clear hd
  go_enter Tryz.func114, Tryz.ntmps114
  go_wp2_with (go_at_call 116; refine (zp1 _ _).mono ?_; rintro e w' ⟨rfl, rfl⟩; rw [Hd.out])
  go_ret
  exact ⟨rfl, x0.out⟩
 | true =>
  have Hd := hide hd
  clear hd
  by_cases h4 : cs.length ≤ 4096
  ·have h4' : ¬ (4096 : Int) < (cs.length : Int) := by omega
   have hd4 : Hid ((true && decide (cs.length ≤ 4096) && cs.all (cellB dt)) = cs.all (cellB dt)) := by show (_ : Bool) = _; simp [h4]
   rw [hd4.out]
   go_enter Tryz.func114, Tryz.ntmps114
   go_wp2_with (go_at_call 116; refine (zp1 _ _).mono ?_; rintro e w' ⟨rfl, rfl⟩; rw [Hd.out])
   generalize hW1 : w.alloc (χ #[O ι dt, σ sa cs.length cap] 123) = W1 at x0 ⊢
   have D0 : Hid (W1.cell? ⟨w.heap.size, 0, none⟩ = some (O ι dt)) := by show W1.cell? _ = _; rw [← hW1]; exact zd w _ 123 _ rfl 0
   clear hW1
   go_loopw [18] (fun i wr => ∃ k : Nat, i = O ι k ∧ k ≤ cs.length ∧ Hid (∀ j, j < k → cellB dt (cs.getD j k0) = true) ∧ Ext W1 wr) (fun i _ => cs.length - (intOf i).toNat)
   case atStart => exact ⟨0, rfl, by omega, fun j hj => absurd hj (Nat.not_lt_zero _), Ext.refl W1⟩
   case round =>
    obtain ⟨k, rfl, hk, hv, hw⟩ := hrel
    have HW := hide hw
    clear hw
    by_cases hlt : k < cs.length
    ·rcases HX.out with h0 | ⟨b, off, rfl, hrow⟩
     ·rw [h0] at hlt; simp at hlt
     have xx := x0.out.trans HW.out
     have q0 := xx.box (hrow k hlt).1
     have q1 := xx.box (hrow k hlt).2.1
     have q2 := xx.box (hrow k hlt).2.2
     have dd := HW.out.box D0.out
     have hgk := hg.at k hlt
     have hk0 : (0 : Int) ≤ (k : Int) := Int.natCast_nonneg _
     have hk1 : (k : Int) < (cs.length : Int) := by omega
     have hcb : Hid (cellB dt (cs.getD k k0) = validB dt (cs.getD k k0).1 (cs.getD k k0).2.1 (cs.getD k k0).2.2) := rfl
     generalize hA : (cs.getD k k0).1 = A at q0 hgk hcb
     generalize hB : (cs.getD k k0).2.1 = B at q1 hgk hcb
     generalize hC : (cs.getD k k0).2.2 = C at q2 hgk hcb
     have HG := hide hgk
     clear hrow hgk hA hB hC xx
     have dd' := ((Ext.refl wr).alloc #[O ι A, .float .f64 B, .float .f64 C] 66).box dd
     have hva := hide (zd1 dt A B C HG.out.1 HG.out.2.1 HG.out.2.2 (wr.alloc (χ #[O ι A, .float .f64 B, .float .f64 C] 66)))
     cases hvb : validB dt A B C with
     | true =>
      rw [hvb] at hva hcb
      go_wp2_with (go_at_call 129; refine hva.out.mono ?_; rintro e w2 ⟨rfl, x2⟩; have HW2 := hide ((HW.out.alloc #[O ι A, .float .f64 B, .float .f64 C] 66).trans x2); clear x2)
      go_roundw
      ·refine ⟨k + 1, by go_num, by omega, fun j hj => ?_, HW2.out⟩
       by_cases e : j = k
       ·rw [e]; exact hcb.out
       ·exact hv.out j (by omega)
      ·simp [intOf]; omega
     | false =>
      rw [hvb] at hva hcb
      go_wp2_with (go_at_call 129; refine hva.out.mono ?_; rintro e w2 ⟨rfl, x2⟩; have HW2 := hide ((HW.out.alloc #[O ι A, .float .f64 B, .float .f64 C] 66).trans x2); clear x2)
      go_ret
      rw [zg9 k0 hlt hcb.out]
      exact ⟨rfl, x0.out.trans HW2.out⟩
    ·have hkk : k = cs.length := by omega
     subst hkk
     go_wp2
     go_ret
     rw [zg10 k0 hv.out]
     exact ⟨rfl, x0.out.trans HW.out⟩
  ·have h4' : (4096 : Int) < (cs.length : Int) := by omega
   have hd4 : Hid ((true && decide (cs.length ≤ 4096) && cs.all (cellB dt)) = false) := by show (_ : Bool) = _; simp [h4]
   rw [hd4.out]
   go_enter Tryz.func114, Tryz.ntmps114
   go_wp2_with (go_at_call 116; refine (zp1 _ _).mono ?_; rintro e w' ⟨rfl, rfl⟩; rw [Hd.out])
   go_ret
   exact ⟨rfl, x0.out⟩
theorem zn24 {w : World} {v : Value} {ss : List St} (h : SV w v ss) (hg : SG ss) (hl : SL ss 1048576) :
  Calls Tryz.prog 76 #[γ #[v]] w fun e w' => e = .returned (.bool (vHeap ss)) ∧ Ext w w' := by
 unfold vHeap
 obtain ⟨sa, cap, rfl, hx⟩ := h
 have x0 : Hid (Ext w (w.alloc (χ #[σ sa ss.length cap] 34))) := (Ext.refl w).alloc _ _
 have HX := hide hx
 have hl1 := hl.1
 clear hx
 by_cases h4 : ss.length ≤ 64
 ·have h4' : ¬ (64 : Int) < (ss.length : Int) := by omega
  have hd4 : Hid ((decide (ss.length ≤ 64) && ss.all vStore) = ss.all vStore) := by show (_ : Bool) = _; simp [h4]
  rw [hd4.out]
  go_enter Tryz.func76, Tryz.ntmps76
  go_wp2_with fail
  generalize hW1 : w.alloc (χ #[σ sa ss.length cap] 34) = W1 at x0 ⊢
  clear hW1
  go_loopw [12] (fun i wr => ∃ k : Nat, i = O ι k ∧ k ≤ ss.length ∧ Hid (∀ j, j < k → vStore (ss.getD j s0) = true) ∧ Ext w wr) (fun i _ => ss.length - (intOf i).toNat)
  case atStart => exact ⟨0, rfl, by omega, fun j hj => absurd hj (Nat.not_lt_zero _), x0.out⟩
  case round =>
   obtain ⟨k, rfl, hk, hv, hw⟩ := hrel
   have HW := hide hw
   clear hw
   by_cases hlt : k < ss.length
   ·rcases HX.out with h0 | ⟨b, off, rfl, hrow⟩
    ·rw [h0] at hlt; simp at hlt
    obtain ⟨q0, u, q1, c1⟩ := (hrow.keep HW.out.bl) k hlt
    have hgk := hg.at k hlt
    have hlk := hl.at k hlt
    have hk0 : (0 : Int) ≤ (k : Int) := Int.natCast_nonneg _
    have hk1 : (k : Int) < (ss.length : Int) := by omega
    have C1 := hide c1
    have hcb : Hid (vStore (ss.getD k s0) = vStore ((ss.getD k s0).1, (ss.getD k s0).2)) := rfl
    generalize (ss.getD k s0).1 = A at q0 hcb
    generalize (ss.getD k s0).2 = cs at C1 hgk hlk hcb
    clear hrow c1
    obtain ⟨s1, d1, rfl, _⟩ := C1.out
    have xa : Ext wr (wr.alloc (χ #[O ι A, σ s1 cs.length d1] 123)) := (Ext.refl wr).alloc _ _
    have hva := hide (zv7 A (C1.out.keep xa.bl) hgk hlk)
    have HWa := hide (HW.out.trans xa)
    clear xa
    cases hvb : vStore (A, cs) with
    | true =>
     rw [hvb] at hva hcb
     go_wp2_with (go_at_call 114; refine hva.out.mono ?_; rintro e w2 ⟨rfl, x2⟩; have HW2 := hide (HWa.out.trans x2); clear x2)
     go_roundw
     ·refine ⟨k + 1, by go_num, by omega, fun j hj => ?_, HW2.out⟩
      by_cases e : j = k
      ·rw [e]; exact hcb.out
      ·exact hv.out j (by omega)
     ·simp [intOf]; omega
    | false =>
     rw [hvb] at hva hcb
     go_wp2_with (go_at_call 114; refine hva.out.mono ?_; rintro e w2 ⟨rfl, x2⟩; have HW2 := hide (HWa.out.trans x2); clear x2)
     go_ret
     rw [zg9 s0 hlt hcb.out]
     exact ⟨rfl, HW2.out⟩
   ·have hkk : k = ss.length := by omega
    subst hkk
    go_wp2
    go_ret
    rw [zg10 s0 hv.out]
    exact ⟨rfl, HW.out⟩
 ·have h4' : (64 : Int) < (ss.length : Int) := by omega
  have hd4 : Hid ((decide (ss.length ≤ 64) && ss.all vStore) = false) := by show (_ : Bool) = _; simp [h4]
  rw [hd4.out]
  go_enter Tryz.func76, Tryz.ntmps76
  go_wp2
  go_ret
  exact ⟨rfl, x0.out⟩
theorem zk23 {w : World} {v : Value} {ss : List St} (h : SV w v ss) (hg : SG ss) (hl : SL ss 1048576) :
  Calls Tryz.prog 65 #[γ #[v]] w fun e w' => e = .returned (.bool (vHeap ss)) ∧ Ext w w' := by
 unfold vHeap
 obtain ⟨sa, cap, rfl, hx⟩ := h
 have x0 : Hid (Ext w (w.alloc (χ #[σ sa ss.length cap] 34))) := (Ext.refl w).alloc _ _
 have HX := hide hx
 have hl1 := hl.1
 clear hx
 by_cases h4 : ss.length ≤ 64
 ·have h4' : ¬ (64 : Int) < (ss.length : Int) := by omega
  have hd4 : Hid ((decide (ss.length ≤ 64) && ss.all vStore) = ss.all vStore) := by show (_ : Bool) = _; simp [h4]
  rw [hd4.out]
  go_enter Tryz.func65, Tryz.ntmps65
  go_wp2_with fail
  generalize hW1 : w.alloc (χ #[σ sa ss.length cap] 34) = W1 at x0 ⊢
  have D0 : Hid (W1.cell? ⟨w.heap.size, 0, none⟩ = some (σ sa ss.length cap)) := by show W1.cell? _ = _; rw [← hW1]; exact zd w _ 34 _ rfl 0
  clear hW1
  go_loopw [3] (fun i wr => ∃ k : Nat, i = O ι k ∧ k ≤ ss.length ∧ Hid (∀ j, j < k → vStore (ss.getD j s0) = true) ∧ Ext W1 wr) (fun i _ => ss.length - (intOf i).toNat)
  case atStart => exact ⟨0, rfl, by omega, fun j hj => absurd hj (Nat.not_lt_zero _), Ext.refl W1⟩
  case round =>
   obtain ⟨k, rfl, hk, hv, hw⟩ := hrel
   have HW := hide hw
   clear hw
   have dd := HW.out.box D0.out
   by_cases hlt : k < ss.length
   ·rcases HX.out with h0 | ⟨b, off, rfl, hrow⟩
    ·rw [h0] at hlt; simp at hlt
    obtain ⟨q0, u, q1, c1⟩ := (hrow.keep (x0.out.trans HW.out).bl) k hlt
    have hgk := hg.at k hlt
    have hlk := hl.at k hlt
    have hk0 : (0 : Int) ≤ (k : Int) := Int.natCast_nonneg _
    have hk1 : (k : Int) < (ss.length : Int) := by omega
    have C1 := hide c1
    have hcb : Hid (vStore (ss.getD k s0) = vStore ((ss.getD k s0).1, (ss.getD k s0).2)) := rfl
    generalize (ss.getD k s0).1 = A at q0 hcb
    generalize (ss.getD k s0).2 = cs at C1 hgk hlk hcb
    clear hrow c1
    obtain ⟨s1, d1, rfl, hcr⟩ := C1.out
    have HCR := hide hcr
    clear hcr
    have xa : Ext wr (wr.alloc (χ #[O ι A, σ s1 cs.length d1] 123)) := (Ext.refl wr).alloc _ _
    have n0 := fun j => zd wr #[O ι A, σ s1 cs.length d1] 123 wr.heap.size rfl j
    have HN0 := hide (n0 0)
    have HN1 := hide (n0 1)
    have HWa := hide (HW.out.trans xa)
    have HXa := hide xa
    clear xa n0
    have hcb2 : Hid (vStore (ss.getD k s0) = (isDtB A && decide (cs.length ≤ 4096) && cs.all (cellB A))) := hcb.out.trans (zi10 A cs)
    clear hcb
    cases hd : isDtB A with
    | false =>
     have Hd := hide hd
     have hno : Hid (vStore (ss.getD k s0) = false) := by show vStore _ = false; rw [hcb2.out, hd]; rfl
     clear hd
     go_wp2_with (go_at_call 103; refine (zn _ _).mono ?_; rintro e w' ⟨rfl, rfl⟩; rw [Hd.out])
     go_ret
     rw [zg9 s0 hlt hno.out]
     exact ⟨rfl, x0.out.trans HWa.out⟩
    | true =>
     have Hd := hide hd
     rw [hd] at hcb2
     clear hd
     by_cases h5 : cs.length ≤ 4096
     ·have h5' : ¬ (4096 : Int) < (cs.length : Int) := by omega
      have hc3 : Hid (vStore (ss.getD k s0) = cs.all (cellB A)) := by show vStore _ = _; rw [hcb2.out]; simp [h5]
      clear hcb2
      go_wp2_with (go_at_call 103; refine (zn _ _).mono ?_; rintro e w' ⟨rfl, rfl⟩; rw [Hd.out])
      generalize hWa : wr.alloc (χ #[O ι A, σ s1 cs.length d1] 123) = Wa at HN0 HN1 HWa HXa ⊢
      generalize wr.heap.size = B0 at HN0 HN1 ⊢
      clear hWa
      go_loopw [5] (fun i wr2 => ∃ m : Nat, i = O ι m ∧ m ≤ cs.length ∧ Hid (∀ j, j < m → cellB A (cs.getD j k0) = true) ∧ Ext Wa wr2) (fun i _ => cs.length - (intOf i).toNat)
      case atStart => exact ⟨0, rfl, by omega, fun j hj => absurd hj (Nat.not_lt_zero _), Ext.refl Wa⟩
      case round =>
       obtain ⟨m, rfl, hm, hv2, hw2⟩ := hrel
       have HW2 := hide hw2
       clear hw2
       have e0 := HW2.out.box HN0.out
       have e1 := HW2.out.box HN1.out
       by_cases hml : m < cs.length
       ·rcases HCR.out with h0 | ⟨bc, oc, rfl, hrow⟩
        ·rw [h0] at hml; simp at hml
        have xx := HXa.out.trans HW2.out
        have q0 := xx.box (hrow m hml).1
        have q1 := xx.box (hrow m hml).2.1
        have q2 := xx.box (hrow m hml).2.2
        have hgm := hgk.at m hml
        have hm0 : (0 : Int) ≤ (m : Int) := Int.natCast_nonneg _
        have hm1 : (m : Int) < (cs.length : Int) := by omega
        have hcb : Hid (cellB A (cs.getD m k0) = validB A (cs.getD m k0).1 (cs.getD m k0).2.1 (cs.getD m k0).2.2) := rfl
        generalize (cs.getD m k0).1 = X at q0 hgm hcb
        generalize (cs.getD m k0).2.1 = Y at q1 hgm hcb
        generalize (cs.getD m k0).2.2 = Z at q2 hgm hcb
        have HG := hide hgm
        clear hrow hgm xx
        have hva := hide (fun W => zu A X Y Z HG.out.2.1 HG.out.2.2 W)
        cases hvb : validB A X Y Z with
        | true =>
         rw [hvb] at hva hcb
         have SA : Hid ((fun w' => w'.cell? ⟨B0, 0, none⟩ = some (O ι A) ∧ w'.cell? ⟨B0, 1, none⟩ = some (σ (some ⟨bc, oc, none⟩) cs.length d1) ∧ w'.cell? ⟨bc, oc + m * 3, none⟩ = some (O ι X) ∧ w'.cell? ⟨bc, oc + m * 3 + 1, none⟩ = some (.float .f64 Y) ∧ w'.cell? ⟨bc, oc + m * 3 + 2, none⟩ = some (.float .f64 Z)) wr.drew) := ⟨e0, e1, q0, q1, q2⟩
         go_wp2_with fail
         go_region_held3 (fun w' => w'.cell? ⟨B0, 0, none⟩ = some (O ι A) ∧ w'.cell? ⟨B0, 1, none⟩ = some (σ (some ⟨bc, oc, none⟩) cs.length d1) ∧ w'.cell? ⟨bc, oc + m * 3, none⟩ = some (O ι X) ∧ w'.cell? ⟨bc, oc + m * 3 + 1, none⟩ = some (.float .f64 Y) ∧ w'.cell? ⟨bc, oc + m * 3 + 2, none⟩ = some (.float .f64 Z)) (first | with_reducible exact SA.out | with_reducible exact SB'.out | exact SA.out | exact SB'.out | fail) (first | (go_at_call 104; refine (hva.out _).mono ?_; rintro e w3 ⟨rfl, x3⟩; have HW3 := hide (HW2.out.drew.trans x3); have SB' : Hid ((fun w' => w'.cell? ⟨B0, 0, none⟩ = some (O ι A) ∧ w'.cell? ⟨B0, 1, none⟩ = some (σ (some ⟨bc, oc, none⟩) cs.length d1) ∧ w'.cell? ⟨bc, oc + m * 3, none⟩ = some (O ι X) ∧ w'.cell? ⟨bc, oc + m * 3 + 1, none⟩ = some (.float .f64 Y) ∧ w'.cell? ⟨bc, oc + m * 3 + 2, none⟩ = some (.float .f64 Z)) w3) := ⟨x3.box e0, x3.box e1, x3.box q0, x3.box q1, x3.box q2⟩; clear x3) | fail)
         go_wp2
         go_roundw
         ·refine ⟨m + 1, by go_num, by omega, fun j hj => ?_, HW3.out⟩
          by_cases e : j = m
          ·rw [e]; exact hcb.out
          ·exact hv2.out j (by omega)
         ·simp [intOf]; omega
        | false =>
         rw [hvb] at hva hcb
         have hno : Hid (vStore (ss.getD k s0) = false) := by show vStore _ = _; rw [hc3.out]; exact zg9 k0 hml hcb.out
         have SA : Hid ((fun w' => w'.cell? ⟨B0, 0, none⟩ = some (O ι A) ∧ w'.cell? ⟨B0, 1, none⟩ = some (σ (some ⟨bc, oc, none⟩) cs.length d1) ∧ w'.cell? ⟨bc, oc + m * 3, none⟩ = some (O ι X) ∧ w'.cell? ⟨bc, oc + m * 3 + 1, none⟩ = some (.float .f64 Y) ∧ w'.cell? ⟨bc, oc + m * 3 + 2, none⟩ = some (.float .f64 Z)) wr.drew) := ⟨e0, e1, q0, q1, q2⟩
         go_wp2_with fail
         go_region_held3 (fun w' => w'.cell? ⟨B0, 0, none⟩ = some (O ι A) ∧ w'.cell? ⟨B0, 1, none⟩ = some (σ (some ⟨bc, oc, none⟩) cs.length d1) ∧ w'.cell? ⟨bc, oc + m * 3, none⟩ = some (O ι X) ∧ w'.cell? ⟨bc, oc + m * 3 + 1, none⟩ = some (.float .f64 Y) ∧ w'.cell? ⟨bc, oc + m * 3 + 2, none⟩ = some (.float .f64 Z)) (first | with_reducible exact SA.out | with_reducible exact SB'.out | exact SA.out | exact SB'.out | fail) (first | (go_at_call 104; refine (hva.out _).mono ?_; rintro e w3 ⟨rfl, x3⟩; have HW3 := hide (HW2.out.drew.trans x3); have SB' : Hid ((fun w' => w'.cell? ⟨B0, 0, none⟩ = some (O ι A) ∧ w'.cell? ⟨B0, 1, none⟩ = some (σ (some ⟨bc, oc, none⟩) cs.length d1) ∧ w'.cell? ⟨bc, oc + m * 3, none⟩ = some (O ι X) ∧ w'.cell? ⟨bc, oc + m * 3 + 1, none⟩ = some (.float .f64 Y) ∧ w'.cell? ⟨bc, oc + m * 3 + 2, none⟩ = some (.float .f64 Z)) w3) := ⟨x3.box e0, x3.box e1, x3.box q0, x3.box q1, x3.box q2⟩; clear x3) | fail)
         go_wp2
         go_ret
         rw [zg9 s0 hlt hno.out]
         exact ⟨rfl, (x0.out.trans HWa.out).trans HW3.out⟩
       ·have hmm : m = cs.length := by omega
        subst hmm
        have hyes : Hid (vStore (ss.getD k s0) = true) := by show vStore _ = _; rw [hc3.out]; exact zg10 k0 hv2.out
        go_wp2
        go_roundw
        ·refine ⟨k + 1, by go_num, by omega, fun j hj => ?_, HWa.out.trans HW2.out⟩
         by_cases e : j = k
         ·rw [e]; exact hyes.out
         ·exact hv.out j (by omega)
        ·simp [intOf]; omega
     ·have h5' : (4096 : Int) < (cs.length : Int) := by omega
      have hno : Hid (vStore (ss.getD k s0) = false) := by show vStore _ = _; rw [hcb2.out]; simp [h5]
      clear hcb2
      go_wp2_with (go_at_call 103; refine (zn _ _).mono ?_; rintro e w' ⟨rfl, rfl⟩; rw [Hd.out])
      go_ret
      rw [zg9 s0 hlt hno.out]
      exact ⟨rfl, x0.out.trans HWa.out⟩
   ·have hkk : k = ss.length := by omega
    subst hkk
    go_wp2
    go_ret
    rw [zg10 s0 hv.out]
    exact ⟨rfl, x0.out.trans HW.out⟩
 ·have h4' : (64 : Int) < (ss.length : Int) := by omega
  have hd4 : Hid ((decide (ss.length ≤ 64) && ss.all vStore) = false) := by show (_ : Bool) = _; simp [h4]
  rw [hd4.out]
  go_enter Tryz.func65, Tryz.ntmps65
  go_wp2
  go_ret
  exact ⟨rfl, x0.out⟩
abbrev GoodA (ss : List St) (st : Int) (xs sv : List Int) (off : Int) : Prop := (0 ≤ st ∧ st < ss.length) ∧ ValidV xs sv off ∧ ∀ p ∈ offsL xs sv off, p < ((ss.getD st.toNat s0).2.length : Int)
def dcGoodA (ss : List St) (st : Int) (xs sv : List Int) (off : Int) : Bool := decide (GoodA ss st xs sv off)
theorem dcGoodA_t {ss : List St} {st : Int} {xs sv : List Int} {off : Int} (h : GoodA ss st xs sv off) : dcGoodA ss st xs sv off = true := decide_eq_true h
theorem dcGoodA_f {ss : List St} {st : Int} {xs sv : List Int} {off : Int} (h : ¬ GoodA ss st xs sv off) : dcGoodA ss st xs sv off = false := decide_eq_false h
theorem zr4 {xs sv : List Int} {off : Int} (hv : ValidV xs sv off) : (offsL xs sv off).length ≤ 4096 := by
 unfold offsL
 split
 ·simp
 ·rw [zq1 xs sv off hv.2.1.symm]
  have h1 := zw (fun m hm => (zy hv.1 m hm).1)
  have h2 := hv.1.2.2
  omega
theorem zf17 {w : World} {v vS vT : Value} {ss : List St} {xs sv : List Int} (h : SV w v ss) (hl : SL ss 1048576) (st : Int) (hS : Ints w vS xs) (hT : Ints w vT sv) (off : Int) (lx : xs.length ≤ 1048576) (ls : sv.length ≤ 1048576) :
  Calls Tryz.prog 66 #[γ #[v], γ #[O ι st, vS, vT, O ι off]] w fun e w' => e = .returned (.bool (dcGoodA ss st xs sv off)) ∧ Bel w w' := by
 obtain ⟨sa, cap, rfl, hx⟩ := h
 have h : SV w (σ sa ss.length cap) ss := ⟨sa, cap, rfl, hx⟩
 have x0 : Ext w ((w.alloc (χ #[σ sa ss.length cap] 34)).alloc (χ #[O ι st, vS, vT, O ι off] 41)) := ((Ext.refl w).alloc _ _).alloc _ _
 have y0 : Ext (w.alloc (χ #[σ sa ss.length cap] 34)) ((w.alloc (χ #[σ sa ss.length cap] 34)).alloc (χ #[O ι st, vS, vT, O ι off] 41)) := (Ext.refl _).alloc _ _
 have n1 := fun j => zd w #[σ sa ss.length cap] 34 w.heap.size rfl j
 have n2 := fun j => zd (w.alloc (χ #[σ sa ss.length cap] 34)) #[O ι st, vS, vT, O ι off] 41 (w.heap.size + 1) (by simp) j
 have C0 : Hid (((w.alloc (χ #[σ sa ss.length cap] 34)).alloc (χ #[O ι st, vS, vT, O ι off] 41)).cell? ⟨w.heap.size, 0, none⟩ = some (σ sa ss.length cap)) := y0.box (n1 0)
 have A0 : Hid (((w.alloc (χ #[σ sa ss.length cap] 34)).alloc (χ #[O ι st, vS, vT, O ι off] 41)).cell? ⟨w.heap.size + 1, 0, none⟩ = some (O ι st)) := n2 0
 have A1 : Hid (((w.alloc (χ #[σ sa ss.length cap] 34)).alloc (χ #[O ι st, vS, vT, O ι off] 41)).cell? ⟨w.heap.size + 1, 1, none⟩ = some vS) := n2 1
 have A2 : Hid (((w.alloc (χ #[σ sa ss.length cap] 34)).alloc (χ #[O ι st, vS, vT, O ι off] 41)).cell? ⟨w.heap.size + 1, 2, none⟩ = some vT) := n2 2
 have A3 : Hid (((w.alloc (χ #[σ sa ss.length cap] 34)).alloc (χ #[O ι st, vS, vT, O ι off] 41)).cell? ⟨w.heap.size + 1, 3, none⟩ = some (O ι off)) := n2 3
 have X0 := hide x0.bl
 have HH := hide (h.keep x0.bl)
 have HS := hide (hS.ext x0)
 have HT := hide (hT.ext x0)
 have hl1 := hl.1
 clear hx h x0 y0 n1 n2
 obtain ⟨s1, d1, rfl, _⟩ := hS
 obtain ⟨s2, d2, rfl, _⟩ := hT
 by_cases h1 : st < 0
 ·have hno : Hid ((dcGoodA ss st xs sv off) = false) := decide_eq_false (fun q => by have := q.1.1; omega)
  have hd : decide (st < 0) = true := decide_eq_true h1
  go_enter Tryz.func66, Tryz.ntmps66
  go_wp2
  go_ret
  exact ⟨zm hno.out.symm, X0.out⟩
 have hd1 : decide (st < 0) = false := decide_eq_false h1
 by_cases h2 : (ss.length : Int) ≤ st
 ·have hno : Hid ((dcGoodA ss st xs sv off) = false) := decide_eq_false (fun q => by have := q.1.2; omega)
  have hd : decide ((ss.length : Int) ≤ st) = true := decide_eq_true h2
  go_enter Tryz.func66, Tryz.ntmps66
  go_wp2
  go_ret
  exact ⟨zm hno.out.symm, X0.out⟩
 have hd2 : decide ((ss.length : Int) ≤ st) = false := decide_eq_false h2
 obtain ⟨k, rfl⟩ : ∃ k : Nat, st = (k : Int) := ⟨st.toNat, by omega⟩
 have hk : k < ss.length := by omega
 have hgv : Hid (GoodA ss k xs sv off ↔ ValidV xs sv off ∧ ∀ p ∈ offsL xs sv off, p < ((ss.getD k s0).2.length : Int)) := by
  show GoodA ss k xs sv off ↔ _
  unfold GoodA
  rw [Int.toNat_natCast]
  exact ⟨fun q => q.2, fun q => ⟨⟨by omega, by omega⟩, q⟩⟩
 have hvv := hide (zi18 HS.out HT.out off lx ls)
 generalize hW0 : (w.alloc (χ #[σ sa ss.length cap] 34)).alloc (χ #[O ι (k : Int), σ s1 xs.length d1, σ s2 sv.length d2, O ι off] 41) = W0 at C0 A0 A1 A2 A3 X0 HH HS HT hvv
 have HW0 := hide hW0
 clear hW0
 by_cases hv : ValidV xs sv off
 ·have hdv : (dcValidV xs sv off) = true := dcValidV_t hv
  rw [hdv] at hvv
  have HV := hide hv
  clear hv
  go_enter Tryz.func66, Tryz.ntmps66
  go_wp2_with (go_at_call 67; rw [HW0.out]; refine hvv.out.mono ?_; rintro e w1 ⟨rfl, x1⟩; have c0' := x1.box C0.out; have a0' := x1.box A0.out; have a1' := x1.box A1.out; have a2' := x1.box A2.out; have a3' := x1.box A3.out)
  have hv := HV.out
  have HS1 := hide (HS.out.below x1)
  have HT1 := hide (HT.out.below x1)
  have HH1 := hide (HH.out.keep x1)
  have X1 := hide (Bel.tr X0.out x1)
  have hOl := zr4 hv
  refine (zi2 HS1.out HT1.out off hv).mono ?_
  rintro e w2 ⟨so, co, rfl, hO, x2⟩
  have c2' := Bel.box x2 c0'
  have a2'' := Bel.box x2 a0'
  have HH2 := hide (HH1.out.keep x2)
  have X2 := hide (Bel.tr X1.out x2)
  have HO := hide hO
  clear x1 x2 hO c0' a0' a1' a2' a3' HS1 HT1 HH1 X1 HS HT HH X0 C0 A0 A1 A2 A3 HW0 hvv
  have hgv2 : Hid (GoodA ss k xs sv off ↔ ∀ p ∈ offsL xs sv off, p < ((ss.getD k s0).2.length : Int)) := ⟨fun q => (hgv.out.1 q).2, fun q => hgv.out.2 ⟨hv, q⟩⟩
  clear hgv hdv hv HV
  obtain ⟨sb0, cb0, eb0, hrow0⟩ := HH2.out
  injection eb0 with eb1 _ eb2
  subst eb1 eb2
  rcases hrow0 with h0 | ⟨bs, os, rfl, hrow⟩
  ·rw [h0] at hk; simp at hk
  obtain ⟨q0, u, q1, q2⟩ := hrow k hk
  obtain ⟨su, cu, rfl, _⟩ := q2
  have hcl := hl.at k hk
  generalize (ss.getD k s0).2.length = N at hgv2 hcl q1
  generalize (ss.getD k s0).1 = DT at q0
  generalize offsL xs sv off = L at HO hOl hgv2 ⊢
  clear hrow
  have hk0 : (0 : Int) ≤ (k : Int) := Int.natCast_nonneg _
  have hk1 : (k : Int) < (ss.length : Int) := by omega
  go_wp2_with fail
  go_loopw [6] (fun i wr => ∃ m : Nat, i = O ι m ∧ m ≤ L.length ∧ Hid (∀ j, j < m → L.getD j 0 < (N : Int)) ∧ Ext w2 wr) (fun i _ => L.length - (intOf i).toNat)
  case atStart => exact ⟨0, rfl, by omega, fun j hj => absurd hj (Nat.not_lt_zero _), Ext.refl w2⟩
  case round =>
   obtain ⟨m, rfl, hm, hv2, hw2⟩ := hrel
   have HW2 := hide hw2
   clear hw2
   have b0' := HW2.out.box c2'
   have b1' := HW2.out.box a2''
   have b2' := HW2.out.box q1
   by_cases hml : m < L.length
   ·rcases HO.out with h0 | ⟨g, rfl, hg1, hrowL, _⟩
    ·rw [h0] at hml; simp at hml
    have l0 := HW2.out.box (hrowL m hml)
    rw [Nat.zero_add] at l0
    have hm0 : (0 : Int) ≤ (m : Int) := Int.natCast_nonneg _
    have hm1 : (m : Int) < (L.length : Int) := by omega
    have hmem : Hid (¬ L.getD m 0 < (N : Int) → ¬ GoodA ss k xs sv off) := fun q1 q2 => q1 (hgv2.out.1 q2 _ (by rw [List.getD_eq_getElem?_getD, List.getElem?_eq_getElem hml]; exact List.getElem_mem hml))
    have hstep : Hid (L.getD m 0 < (N : Int) → ∀ j, j < m + 1 → L.getD j 0 < (N : Int)) := fun q j hj => by
     by_cases e : j = m
     ·rw [e]; exact q
     ·exact hv2.out j (by omega)
    generalize L.getD m 0 = X at l0 hmem hstep
    clear hrowL
    by_cases hX : X < (N : Int)
    ·have hX' : ¬ (N : Int) ≤ X := by omega
     have hXd : decide ((N : Int) ≤ X) = false := decide_eq_false hX'
     go_wp2_with fail
     go_quiet (fail)
     go_wp2
     go_roundw
     ·exact ⟨m + 1, by go_num, by omega, hstep.out hX, HW2.out.drewN _⟩
     ·simp [intOf]; omega
    ·have hX' : (N : Int) ≤ X := by omega
     have hXd : decide ((N : Int) ≤ X) = true := decide_eq_true hX'
     have hno : Hid ((dcGoodA ss k xs sv off) = false) := decide_eq_false (hmem.out hX)
     go_wp2_with fail
     go_quiet (fail)
     go_wp2
     go_ret
     exact ⟨zm hno.out.symm, Bel.tr X2.out (HW2.out.drewN _).bl⟩
   ·have hmm : m = L.length := by omega
    subst hmm
    have hyes : Hid ((dcGoodA ss k xs sv off) = true) := decide_eq_true (hgv2.out.2 fun p hp => by
     obtain ⟨j, hj, rfl⟩ := List.getElem_of_mem hp
     have := hv2.out j hj
     rw [List.getD_eq_getElem?_getD, List.getElem?_eq_getElem hj] at this
     exact this)
    go_wp2
    go_ret
    exact ⟨zm hyes.out.symm, Bel.tr X2.out HW2.out.bl⟩
 ·have hno : Hid ((dcGoodA ss k xs sv off) = false) := decide_eq_false (fun q => hv (hgv.out.1 q).1)
  have hdv : (dcValidV xs sv off) = false := dcValidV_f hv
  rw [hdv] at hvv
  have HV := hide hv
  clear hv
  go_enter Tryz.func66, Tryz.ntmps66
  go_wp2_with (go_at_call 67; rw [HW0.out]; refine hvv.out.mono ?_; rintro e w1 ⟨rfl, x1⟩)
  have hv := HV.out
  go_ret
  exact ⟨zm hno.out.symm, Bel.tr X0.out x1⟩

end
section
open Go.ChangeShapes Go.RowKit
def inN (xs ss : List Int) (off N : Int) : Bool := decide (prod xs = 0 ∨ (0 ≤ least xs ss off ∧ most xs ss off < N))
theorem zo20 (N : Int) (hN : 0 ≤ N ∧ N ≤ 1048576) (w : World) (xs ss : List Int) (off : Int) (h4 : xs.length ≤ 4) (hr : InR xs xs.length) (hl : ss.length = xs.length) (hs : InS ss ss.length) (ho : 0 ≤ off ∧ off ≤ 4096) :
  Calls Tryz.prog 78 #[γ (vw xs ss off), O ι N] w fun e w' => e = .returned (.bool (inN xs ss off N)) ∧ Ext w w' := by
 have hcnt := hide (fun W => zp2 W xs h4 hr)
 have x0 : Ext w ((w.alloc (χ (vw xs ss off) 83)).alloc (χ (shp xs) 81)) := ((Ext.refl w).alloc _ _).alloc _ _
 have y0 : Ext (w.alloc (χ (vw xs ss off) 83)) ((w.alloc (χ (vw xs ss off) 83)).alloc (χ (shp xs) 81)) := (Ext.refl _).alloc _ _
 have n1 := fun j => zd w (vw xs ss off) 83 w.heap.size rfl j
 have f0 := y0.box (n1 0)
 have f9 := y0.box (n1 9)
 have fl : ∀ j, j < 4 → ((w.alloc (χ (vw xs ss off) 83)).alloc (χ (shp xs) 81)).cell? ⟨w.heap.size, 1 + j, none⟩ = some (O ι (xs.getD j 0)) := fun j hj => by
  obtain rfl | rfl | rfl | rfl : j = 0 ∨ j = 1 ∨ j = 2 ∨ j = 3 := by omega
  exact y0.box (n1 1)
  exact y0.box (n1 2)
  exact y0.box (n1 3)
  exact y0.box (n1 4)
 have fs : ∀ j, j < 4 → ((w.alloc (χ (vw xs ss off) 83)).alloc (χ (shp xs) 81)).cell? ⟨w.heap.size, 5 + j, none⟩ = some (O ι (ss.getD j 0)) := fun j hj => by
  obtain rfl | rfl | rfl | rfl : j = 0 ∨ j = 1 ∨ j = 2 ∨ j = 3 := by omega
  exact y0.box (n1 5)
  exact y0.box (n1 6)
  exact y0.box (n1 7)
  exact y0.box (n1 8)
 have X0 := hide x0
 have FL := hide fl
 have FxS' := hide fs
 clear x0 y0 n1 fl fs
 unfold shp vw at *
 generalize xs.getD 0 0 = a0 at *
 generalize xs.getD 1 0 = a1 at *
 generalize xs.getD 2 0 = a2 at *
 generalize xs.getD 3 0 = a3 at *
 generalize ss.getD 0 0 = b0 at *
 generalize ss.getD 1 0 = b1 at *
 generalize ss.getD 2 0 = b2 at *
 generalize ss.getD 3 0 = b3 at *
 have h4' : (xs.length : Int) ≤ 4 := by omega
 have Hl := hide hl
 have HR := hide hr
 have HS := hide hs
 clear hl hr hs
 go_enter Tryz.func78, Tryz.ntmps78
 go_wp2_with fail
 refine (hcnt.out _).mono ?_
 rintro e w1 ⟨rfl, rfl⟩
 by_cases hp : prod xs = 0
 ·have hyes : Hid (inN xs ss off N = true) := decide_eq_true (Or.inl hp)
  rw [hp]
  go_wp2
  go_ret
  exact ⟨zm hyes.out.symm, X0.out⟩
 ·have hpn : (prod xs == 0) = false := by simp [hp]
  have hin : Hid (inN xs ss off N = decide (0 ≤ least xs ss off ∧ most xs ss off < N)) := decide_eq_decide.2 ⟨fun q => q.resolve_left hp, Or.inr⟩
  generalize prod xs = P at hpn ⊢
  go_wp2_with fail
  generalize hW1 : (w.alloc (χ #[O ι xs.length, O ι a0, O ι a1, O ι a2, O ι a3, O ι b0, O ι b1, O ι b2, O ι b3, O ι off] 83)).alloc (χ #[O ι xs.length, O ι a0, O ι a1, O ι a2, O ι a3] 81) = W1 at X0 FL FxS' f0 f9 ⊢
  clear hW1
  have g0 : W1.cell? ⟨w.heap.size, 0, none⟩ = some (O ι xs.length) := f0
  have g9 : W1.cell? ⟨w.heap.size, 9, none⟩ = some (O ι off) := f9
  clear f0 f9
  go_region
  all_goals go_wp2
  go_loopw [5, 6, 24] (fun a b i wr => ∃ k : Nat, i = O ι k ∧ a = O ι (least (xs.take k) (ss.take k) off) ∧ b = O ι (most (xs.take k) (ss.take k) off) ∧ k ≤ xs.length ∧ Ext W1 wr) (fun a b i _ => xs.length - (intOf i).toNat)
  case atStart => exact ⟨0, rfl, by simp [least], by simp [most], by omega, (Ext.refl W1).drew⟩
  case round =>
   obtain ⟨k, rfl, rfl, rfl, hk, hx⟩ := hrel
   have HX := hide hx
   clear hx
   have hb := zk14 xs ss off Hl.out HR.out HS.out ho k hk
   have hk4 : (k : Int) * 16777216 ≤ 67108864 := by omega
   by_cases hlt : k < xs.length
   ·have q0 := HX.out.box (FL.out k (by omega))
    have q1 := HX.out.box (FxS'.out k (by omega))
    have hk0 : (0 : Int) ≤ (k : Int) := Int.natCast_nonneg _
    have hk1 : (k : Int) < (xs.length : Int) := by omega
    have hk44 : (k : Int) < 4 := by omega
    have hlt1 := zm5 xs ss off k hlt Hl.out
    have hmt1 := zc7 xs ss off k hlt Hl.out
    have hfar := za20 (HR.out k hlt) (HS.out k (by have := Hl.out; omega))
    have hnr := HR.out k hlt
    generalize xs.getD k 0 = n at q0 hlt1 hmt1 hfar hnr
    generalize ss.getD k 0 = s at q1 hlt1 hmt1 hfar
    generalize hA : least (xs.take (k + 1)) (ss.take (k + 1)) off = A at hlt1
    generalize hB : most (xs.take (k + 1)) (ss.take (k + 1)) off = B at hmt1
    generalize least (xs.take k) (ss.take k) off = a at hlt1 hb ⊢
    generalize most (xs.take k) (ss.take k) off = b at hmt1 hb ⊢
    have HA := hide hA
    have HB := hide hB
    clear hA hB
    subst hlt1
    subst hmt1
    go_wp2
    refine ⟨⟨k + 1, by go_num, ?_, ?_, by omega, HX.out⟩, by simp [intOf]; omega⟩
    ·rw [HA.out]
     have e : (if 0 < s * (n - 1) then 0 else s * (n - 1)) = min (s * (n - 1)) 0 := by split <;> omega
     rw [e]
    ·rw [HB.out]
     have e : (if s * (n - 1) < 0 then 0 else s * (n - 1)) = max (s * (n - 1)) 0 := by split <;> omega
     rw [e]
   ·have hkk : k = xs.length := by omega
    subst hkk
    have e1 : xs.take xs.length = xs := List.take_length
    have e2 : ss.take xs.length = ss := List.take_of_length_le (by have := Hl.out; omega)
    rw [e1, e2]
    clear hb e1 e2
    generalize least xs ss off = a at hin ⊢
    generalize most xs ss off = b at hin ⊢
    by_cases ha : 0 ≤ a
    ·by_cases hb : b < N
     ·have hv : Hid (inN xs ss off N = true) := by show inN xs ss off N = true; rw [hin.out]; exact decide_eq_true ⟨ha, hb⟩
      go_wp2
      go_ret
      exact ⟨by rw [hv.out]; first | rfl | simp [ha, hb], X0.out.trans HX.out⟩
     ·have hv : Hid (inN xs ss off N = false) := by show inN xs ss off N = false; rw [hin.out]; exact decide_eq_false (fun q => hb q.2)
      go_wp2
      go_ret
      exact ⟨by rw [hv.out]; first | rfl | simp [ha, hb], X0.out.trans HX.out⟩
    ·have hv : Hid (inN xs ss off N = false) := by show inN xs ss off N = false; rw [hin.out]; exact decide_eq_false (fun q => ha q.1)
     go_wp2
     go_ret
     exact ⟨by rw [hv.out]; first | rfl | simp [ha], X0.out.trans HX.out⟩
end
section
open Go.ChangeShapes Go.RowKit FL
theorem zr26 : (Tryz.prog.info? 85).map (fun i => (i.zero, i.size, i.bytes)) = some (some (γ #[O ι 0, O ι 0, O ι 0, O ι 0, O ι 0, O ι 0, O ι 0, O ι 0, O ι 0, O ι 0, O ι 0, O ι 0, σ none 0 0]), 13, 120) := by kernel_rfl
theorem zq24 {xs sv : List Int} {off : Int} (hv : ValidV xs sv off) (N : Int) : (∀ p ∈ offsL xs sv off, p < N) ↔ inN xs sv off N = true := by
 unfold offsL inN
 rw [decide_eq_true_iff]
 by_cases h : prod xs = 0
 ·rw [if_pos h]
  exact ⟨fun _ => Or.inl h, fun _ p hp => by simp at hp⟩
 ·rw [if_neg h]
  have hr := hv.2.2.2.2.resolve_left h
  have hp := zg1 hv.1 h
  have he := zj14 xs sv off hv.2.1.symm (fun n hn => (hp n hn).1)
  exact ⟨fun q => Or.inr ⟨hr.1, q _ he.2⟩, fun q p hpp => by
   have h1 := (q.resolve_left h).2
   have h2 := zt6 xs sv off p hpp hv.2.1.symm
   omega⟩
def openC (xs sv : List Int) (off st dt : Int) (u : Value) : List Value := [O ι xs.length, O ι (xs.getD 0 0), O ι (xs.getD 1 0), O ι (xs.getD 2 0), O ι (xs.getD 3 0), O ι (sv.getD 0 0), O ι (sv.getD 1 0), O ι (sv.getD 2 0), O ι (sv.getD 3 0), O ι off, O ι st, O ι dt, u]
def openL (ss : List St) (st : Int) (xs sv : List Int) (off : Int) : Int := if vHeap ss = true then (if GoodA ss st xs sv off then 0 else 2) else 1
def OpenOk (w : World) (ss : List St) (st : Int) (xs sv : List Int) (off : Int) (e : Ending) (w' : World) : Prop :=
 ∃ v, e = .returned (.tuple #[v, O ι (openL ss st xs sv off)]) ∧ Bel w w' ∧ ((openL ss st xs sv off ≠ 0 ∧ v = σ none 0 0) ∨
  (openL ss st xs sv off = 0 ∧ ∃ g cap u, v = σ (some ⟨g, 0, none⟩) 1 cap ∧ CV w' u (ss.getD st.toNat s0).2 ∧ ∀ j x, (openC xs sv off st (ss.getD st.toNat s0).1 u)[j]? = some x → w'.cell? ⟨g, j, none⟩ = some x))
theorem zr23 {w w' : World} {base e size n : Nat} {v : Value} {xs : List Value} (h : w.ownsRow base e size v n xs) (x : Ext w w') : w'.ownsRow base e size v n xs := by
 refine ⟨h.1, ?_⟩
 rcases h.2 with h | ⟨g, cap, cur, rfl, h1, h2, h3⟩
 ·exact Or.inl h
 ·exact Or.inr ⟨g, cap, cur, rfl, h1, by rw [x.bl.block g (Array.getElem?_eq_some_iff.1 h2).1]; exact h2, h3⟩
theorem zq18 {w : World} {base e size n : Nat} {v : Value} {xs : List Value} (h : w.ownsRow base e size v n xs) (hn : 0 < n) : ∃ g cap, v = σ (some ⟨g, 0, none⟩) n cap ∧ base ≤ g := by
 rcases h.2 with ⟨_, h2⟩ | ⟨g, cap, cur, h1, h2, _⟩
 ·omega
 ·exact ⟨g, cap, h1, h2⟩
def OpDone (w : World) (ss : List St) (st : Int) (xs sv : List Int) (off : Int) (o : Value) (wr : World) : Prop := GoodA ss st xs sv off ∧ Bel w wr ∧ ∃ g cap u, o = σ (some ⟨g, 0, none⟩) 1 cap ∧ CV wr u (ss.getD st.toNat s0).2 ∧ ∀ j x, (openC xs sv off st (ss.getD st.toNat s0).1 u)[j]? = some x → wr.cell? ⟨g, j, none⟩ = some x
def OpRel (w Wm : World) (b : Nat) (ss : List St) (st : Int) (xs sv : List Int) (off : Int) (o i : Value) (wr : World) : Prop := (i = O ι 0 ∧ o = σ (some ⟨b, 0, none⟩) 0 1 ∧ wr = Wm) ∨ (i = O ι 1 ∧ OpDone w ss st xs sv off o wr)
end
section
open Go.ChangeShapes Go.RowKit
theorem zq3 {xs ss : List Int} {off : Int} (hv : ValidV xs ss off) : ∀ x ∈ offsL xs ss off, 0 ≤ x ∧ x < 4096 := fun x hx => by
 unfold offsL at hx
 split at hx
 ·cases hx
 ·next hz =>
  obtain ⟨hg, hl, _, _, h | h⟩ := hv
  ·exact absurd h hz
  ·exact (zz15 xs ss off hl.symm (fun n hn => (zg1 hg hz n hn).1)).2 h x hx
end
section
open Go.ChangeShapes Go.RowKit Go.Shelf
attribute [local go_sem] Oper.semAt_some
theorem KC.grown {b g : Nat} {A B : World} (hg : A.grownBy B (some g)) (h : g < b) : KC b A B :=
 ⟨hg.size, fun k o hk ho _ => (hg.block k (Array.getElem?_eq_some_iff.1 ho).1 (fun e => by cases e; omega)).trans ho⟩
theorem zl21 {xs ss : List Int} {off : Int} (hv : ValidV xs ss off) : (offsL xs ss off).length ≤ (prod xs).toNat := by
 unfold offsL
 split
 ·simp
 ·rw [zq1 xs ss off hv.2.1.symm]
  have h1 := zw (fun m hm => (zy hv.1 m hm).1)
  omega
end
section
open Go.ChangeShapes Go.RowKit FL
theorem zx4 : (Tryz.prog.info? 66).map (fun i => (i.zero, i.size, i.bytes)) = some (some (γ #[O ι 0, .float .f64 0, .float .f64 0]), 3, 24) := by kernel_rfl
theorem zw13 : (Tryz.prog.info? 123).map (fun i => (i.zero, i.size, i.bytes)) = some (some (γ #[O ι 0, σ none 0 0]), 2, 32) := by kernel_rfl
theorem zu12 {w : World} {v : Value} {cs : List C3} (h : CV w v cs) (hl : cs.length ≤ 1048576) :
  Calls Tryz.prog 113 #[v] w fun e w' => e = .returned (σ (some ⟨w.heap.size, 0, none⟩) cs.length cs.length) ∧ CRow w' w.heap.size 0 cs ∧ Ext w w' ∧ w.heap.size < w'.heap.size := by
 obtain ⟨i0, hi0, hz0, hz1, hz2⟩ := info_parts zx4
 obtain ⟨sa, cap, rfl, hx⟩ := h
 have hmk := run_make (P := Tryz.prog) w 61 66 i0 (γ #[O ι 0, .float .f64 0, .float .f64 0]) Tryz.underlying61 hi0 hz0 .i64 .i64 cs.length cs.length (by omega) (Int.le_refl _) (by rw [hz2]; omega) (by omega)
 simp only [Int.toNat_natCast] at hmk
 have HX := hide hx
 clear hx
 have R0 := hide (zh22 w cs.length 66)
 go_enter Tryz.func113, Tryz.ntmps113
 go_wp2
 go_loopw [4] (fun i wr => ∃ k : Nat, i = O ι k ∧ k ≤ cs.length ∧ CRow wr w.heap.size 0 (fillD k0 cs k) ∧ Ext w wr ∧ w.heap.size < wr.heap.size) (fun i _ => cs.length - (intOf i).toNat)
 case atStart => exact ⟨0, rfl, by omega, by rw [zx8]; exact R0.out, (Ext.refl w).alloc _ _, by simp⟩
 case round =>
  obtain ⟨k, rfl, hk, hr, he, hs⟩ := hrel
  have HR := hide hr
  have HE := hide he
  have Hs := hide hs
  clear hr he hs
  by_cases hlt : k < cs.length
  ·rcases HX.out with h0 | ⟨b, off, rfl, hrow⟩
   ·rw [h0] at hlt; simp at hlt
   have q0 := HE.out.box (hrow k hlt).1
   have q1 := HE.out.box (hrow k hlt).2.1
   have q2 := HE.out.box (hrow k hlt).2.2
   have hk0 : (0 : Int) ≤ (k : Int) := Int.natCast_nonneg _
   have hk1 : (k : Int) < (cs.length : Int) := by omega
   have hst := hide (zx11 k0 cs k hlt)
   have hml : k < (fillD k0 cs k).length := by rw [zy11]; exact hlt
   generalize cs.getD k k0 = t at q0 q1 q2 hst
   clear hrow
   obtain ⟨A, B, C⟩ := t
   simp only at q0 q1 q2
   go_wp2_with fail
   refine (zd16 A B C _).mono ?_
   rintro e w2 ⟨rfl, x2⟩
   have HR2 := hide (HR.out.keep x2.bl)
   have HE2 := hide (HE.out.trans x2)
   have St := HR2.out.set k hml (A, B, C)
   rw [hst.out, Nat.zero_add] at St
   have HSt := hide St
   obtain ⟨r0, r1, r2⟩ := HR2.out k hml
   rw [Nat.zero_add] at r0 r1 r2
   generalize ((fillD k0 cs k).getD k k0).1 = A' at r0
   generalize ((fillD k0 cs k).getD k k0).2.1 = B' at r1
   generalize ((fillD k0 cs k).getD k k0).2.2 = C' at r2
   have qf := fun o => HE2.out.unfrozen (Nat.le_refl _) o
   have Hs2 : Hid (w.heap.size < w2.heap.size) := Nat.lt_of_lt_of_le Hs.out (Below.size x2.bl)
   clear St x2 q0 q1 q2
   go_wp2_with fail
   go_roundw
   ·exact ⟨k + 1, by go_num, by omega, HSt.out, ((HE2.out.setCell (Nat.le_refl _) _).setCell (Nat.le_refl _) _).setCell (Nat.le_refl _) _, by simpa [World.setCell] using Hs2.out⟩
   ·simp [intOf]; omega
  ·have hkk : k = cs.length := by omega
   go_wp2
   go_ret
   refine ⟨rfl, ?_, HE.out, Hs.out⟩
   have := HR.out
   rw [hkk, zy8] at this
   exact this
theorem zt12 {w : World} {u : Value} {cs : List C3} (dt : Int) (h : CV w u cs) (hl : cs.length ≤ 1048576) :
  Calls Tryz.prog 74 #[γ #[O ι dt, u]] w fun e w' => ∃ v, e = .returned (γ #[O ι dt, v]) ∧ CVL w' w.heap.size v cs ∧ Ext w w' := by
 obtain ⟨sa, cap, rfl, hx⟩ := h
 have hcv : CV w (σ sa cs.length cap) cs := ⟨sa, cap, rfl, hx⟩
 generalize hW1 : (w.alloc (χ #[O ι dt, σ sa cs.length cap] 118)) = W1
 have x1 : Ext w W1 := by rw [← hW1]; exact (Ext.refl w).alloc _ _
 have hs1 : W1.heap.size = w.heap.size + 1 := by rw [← hW1]; simp
 have x2 : Ext W1 (W1.alloc (χ #[O ι 0, σ none 0 0] 123)) := (Ext.refl W1).alloc _ _
 have x3 : Ext (W1.alloc (χ #[O ι 0, σ none 0 0] 123)) ((W1.alloc (χ #[O ι 0, σ none 0 0] 123)).alloc (χ #[O ι dt, σ none 0 0] 123)) := (Ext.refl _).alloc _ _
 have r0 := fun j => zd W1 #[O ι 0, σ none 0 0] 123 (w.heap.size + 1) hs1.symm j
 have o0 := fun j => zd (W1.alloc (χ #[O ι 0, σ none 0 0] 123)) #[O ι dt, σ none 0 0] 123 (w.heap.size + 1 + 1) (by simp [hs1]) j
 have HX := hide ((x1.trans x2).trans x3)
 have R0 := hide (x3.box (r0 0))
 have R1 := hide (x3.box (r0 1))
 have O0 := hide (o0 0)
 have O1 := hide (o0 1)
 have hs3 : Hid (((W1.alloc (χ #[O ι 0, σ none 0 0] 123)).alloc (χ #[O ι dt, σ none 0 0] 123)).heap.size = w.heap.size + 3) := by show ((W1.alloc _).alloc _).heap.size = _; simp [hs1]
 have HC := hide (hcv.keep HX.out.bl)
 clear hx hcv x1 x2 x3 r0 o0 hs1
 subst hW1
 go_enter Tryz.func74, Tryz.ntmps74
 go_wp2_with fail
 generalize hW3 : (((w.alloc (χ #[O ι dt, σ sa cs.length cap] 118)).alloc (χ #[O ι 0, σ none 0 0] 123)).alloc (χ #[O ι dt, σ none 0 0] 123)) = W3 at *
 clear hW3
 refine (zu12 HC.out hl).mono ?_
 rintro e w2 ⟨rfl, hr, hx, hsz⟩
 rw [hs3.out] at hr ⊢
 have rc0 := hx.box R0.out
 have rc1 := hx.box R1.out
 have oc0 := hx.box O0.out
 have oc1 := hx.box O1.out
 have HE := hide (HX.out.trans hx)
 have fz := fun b o (hb : w.heap.size ≤ b) => HE.out.unfrozen (b := b) hb o
 have f1 := fz (w.heap.size + 1) 0 (by omega)
 have f2 := fz (w.heap.size + 1) 1 (by omega)
 have f3 := fz (w.heap.size + 1 + 1) 1 (by omega)
 have HR : Hid (CVL w2 (w.heap.size + 3) (σ (some ⟨w.heap.size + 3, 0, none⟩) cs.length cs.length) cs) := ⟨_, _, rfl, Or.inr ⟨_, 0, rfl, Nat.le_refl _, hr⟩⟩
 clear hr hx hsz HX HC R0 R1 O0 O1 hs3 fz
 go_wp2_with fail
 refine bodyPost_ret (v := γ #[O ι dt, σ (some ⟨w.heap.size + 3, 0, none⟩) cs.length cs.length]) (by simp [results, Tryz.results74, go_sem, rc0, rc1]) rfl ⟨_, rfl, ?_, ?_⟩
 ·exact (((HR.out.far (by omega)).far (by omega)).far (by omega)).le (by omega)
 ·exact ((HE.out.setCell (p := ⟨w.heap.size + 1 + 1, 1, none⟩) (by show _ ≤ w.heap.size + 1 + 1; omega) _).setCell (p := ⟨w.heap.size + 1, 0, none⟩) (by show _ ≤ w.heap.size + 1; omega) _).setCell (p := ⟨w.heap.size + 1, 1, none⟩) (by show _ ≤ w.heap.size + 1; omega) _
theorem zj10 {w : World} {v : Value} {ss : List St} (h : SV w v ss) (hl : SL ss 1048576) :
  Calls Tryz.prog 32 #[v] w fun e w' => e = .returned (σ (some ⟨w.heap.size, 0, none⟩) ss.length ss.length) ∧ SRowL w' (w.heap.size + 1) w.heap.size 0 ss ∧ Ext w w' ∧ w.heap.size < w'.heap.size := by
 obtain ⟨i0, hi0, hz0, hz1, hz2⟩ := info_parts zw13
 obtain ⟨sa, cap, rfl, hx⟩ := h
 have hl1 := hl.1
 have HL := hide hl
 clear hl
 have hmk := run_make (P := Tryz.prog) w 32 123 i0 (γ #[O ι 0, σ none 0 0]) Tryz.underlying32 hi0 hz0 .i64 .i64 ss.length ss.length (by omega) (Int.le_refl _) (by rw [hz2]; omega) (by omega)
 simp only [Int.toNat_natCast] at hmk
 have HX := hide hx
 clear hx
 have R0 := hide (zs20 w (w.heap.size + 1) ss.length 123)
 go_enter Tryz.func32, Tryz.ntmps32
 go_wp2
 go_loopw [4] (fun i wr => ∃ k : Nat, i = O ι k ∧ k ≤ ss.length ∧ SRowL wr (w.heap.size + 1) w.heap.size 0 (fillD s0 ss k) ∧ Ext w wr ∧ w.heap.size < wr.heap.size) (fun i _ => ss.length - (intOf i).toNat)
 case atStart => exact ⟨0, rfl, by omega, by rw [zx8]; exact R0.out, (Ext.refl w).alloc _ _, by simp⟩
 case round =>
  obtain ⟨k, rfl, hk, hr, he, hs⟩ := hrel
  have HR := hide hr
  have HE := hide he
  have Hs := hide hs
  clear hr he hs
  by_cases hlt : k < ss.length
  ·rcases HX.out with h0 | ⟨b, off, rfl, hrow⟩
   ·rw [h0] at hlt; simp at hlt
   obtain ⟨q0, u, q1, q2⟩ := (hrow.keep HE.out.bl) k hlt
   have hcl := HL.out.at k hlt
   have hk0 : (0 : Int) ≤ (k : Int) := Int.natCast_nonneg _
   have hk1 : (k : Int) < (ss.length : Int) := by omega
   have hst := hide (zx11 s0 ss k hlt)
   have hml : k < (fillD s0 ss k).length := by rw [zy11]; exact hlt
   have Q2 := hide q2
   clear q2
   generalize ss.getD k s0 = t at q0 Q2 hst hcl
   clear hrow
   obtain ⟨A, cs⟩ := t
   simp only at q0 Q2 hcl
   obtain ⟨su, cu, rfl, _⟩ := Q2.out
   go_wp2_with fail
   refine (zt12 A Q2.out hcl).mono ?_
   rintro e w2 ⟨u2, rfl, hu2, x2⟩
   obtain ⟨sv, cv, rfl, hv⟩ := hu2
   have hu3 : CVL w2 (w.heap.size + 1) (σ sv cs.length cv) cs := CVL.le ⟨sv, cv, rfl, hv⟩ (by have := Hs.out; omega)
   have HR2 := hide (HR.out.keep x2.bl)
   have HE2 := hide (HE.out.trans x2)
   have St := HR2.out.set (by omega) k hml A _ cs hu3
   rw [hst.out, Nat.zero_add] at St
   have HSt := hide St
   obtain ⟨r0, u', r1, _⟩ := HR2.out k hml
   rw [Nat.zero_add] at r0 r1
   generalize ((fillD s0 ss k).getD k s0).1 = A' at r0
   have qf := fun o => HE2.out.unfrozen (Nat.le_refl _) o
   have Hs2 : Hid (w.heap.size < w2.heap.size) := Nat.lt_of_lt_of_le Hs.out (Below.size x2.bl)
   clear St x2 q0 q1 hv hu3
   go_wp2_with fail
   go_roundw
   ·exact ⟨k + 1, by go_num, by omega, HSt.out, (HE2.out.setCell (Nat.le_refl _) _).setCell (Nat.le_refl _) _, by simpa [World.setCell] using Hs2.out⟩
   ·simp [intOf]; omega
  ·have hkk : k = ss.length := by omega
   go_wp2
   go_ret
   refine ⟨rfl, ?_, HE.out, Hs.out⟩
   have := HR.out
   rw [hkk, zy8] at this
   exact this
theorem zj2 {w : World} {v : Value} {ss : List St} (h : SV w v ss) (hl : SL ss 1048576) :
  Calls Tryz.prog 9 #[γ #[v]] w fun e w' => ∃ g, e = .returned (γ #[σ (some ⟨g, 0, none⟩) ss.length ss.length]) ∧ w.heap.size ≤ g ∧ SRowL w' (g + 1) g 0 ss ∧ Ext w w' := by
 obtain ⟨sa, cap, rfl, hx⟩ := h
 have hcv : SV w (σ sa ss.length cap) ss := ⟨sa, cap, rfl, hx⟩
 generalize hW1 : (w.alloc (χ #[σ sa ss.length cap] 24)) = W1
 have x1 : Ext w W1 := by rw [← hW1]; exact (Ext.refl w).alloc _ _
 have hs1 : W1.heap.size = w.heap.size + 1 := by rw [← hW1]; simp
 have x2 : Ext W1 (W1.alloc (χ #[σ none 0 0] 34)) := (Ext.refl W1).alloc _ _
 have x3 : Ext (W1.alloc (χ #[σ none 0 0] 34)) ((W1.alloc (χ #[σ none 0 0] 34)).alloc (χ #[σ none 0 0] 34)) := (Ext.refl _).alloc _ _
 have r0 := fun j => zd W1 #[σ none 0 0] 34 (w.heap.size + 1) hs1.symm j
 have o0 := fun j => zd (W1.alloc (χ #[σ none 0 0] 34)) #[σ none 0 0] 34 (w.heap.size + 1 + 1) (by simp [hs1]) j
 have HX := hide ((x1.trans x2).trans x3)
 have R0 := hide (x3.box (r0 0))
 have O0 := hide (o0 0)
 have hs3 : Hid (((W1.alloc (χ #[σ none 0 0] 34)).alloc (χ #[σ none 0 0] 34)).heap.size = w.heap.size + 3) := by show ((W1.alloc _).alloc _).heap.size = _; simp [hs1]
 have HC := hide (hcv.keep HX.out.bl)
 clear hx hcv x1 x2 x3 r0 o0 hs1
 subst hW1
 go_enter Tryz.func9, Tryz.ntmps9
 go_wp2_with fail
 generalize hW3 : (((w.alloc (χ #[σ sa ss.length cap] 24)).alloc (χ #[σ none 0 0] 34)).alloc (χ #[σ none 0 0] 34)) = W3 at *
 clear hW3
 refine (zj10 HC.out hl).mono ?_
 rintro e w2 ⟨rfl, hr, hx, hsz⟩
 rw [hs3.out] at hr ⊢
 have rc0 := hx.box R0.out
 have oc0 := hx.box O0.out
 have HE := hide (HX.out.trans hx)
 have fz := fun b o (hb : w.heap.size ≤ b) => HE.out.unfrozen (b := b) hb o
 have f1 := fz (w.heap.size + 1) 0 (by omega)
 have f3 := fz (w.heap.size + 1 + 1) 0 (by omega)
 have HR := hide hr
 clear hr hx hsz HX HC R0 O0 hs3 fz
 go_wp2_with fail
 refine bodyPost_ret (v := γ #[σ (some ⟨w.heap.size + 3, 0, none⟩) ss.length ss.length]) (by simp [results, Tryz.results9, go_sem, rc0]) rfl ⟨_, rfl, by omega, ?_, ?_⟩
 ·exact (HR.out.far (by omega) (by omega)).far (by omega) (by omega)
 ·exact (HE.out.setCell (p := ⟨w.heap.size + 1 + 1, 0, none⟩) (by show _ ≤ w.heap.size + 1 + 1; omega) _).setCell (p := ⟨w.heap.size + 1, 0, none⟩) (by show _ ≤ w.heap.size + 1; omega) _
def c3v (c : C3) : List Value := [O ι c.1, .float .f64 c.2.1, .float .f64 c.2.2]
def flat : List C3 → List Value
 | [] => []
 | c :: cs => c3v c ++ flat cs
theorem za5 (cs : List C3) : (flat cs).length = cs.length * 3 := by
 induction cs with
 | nil => rfl
 | cons c cs ih => rw [flat, List.length_append, ih, List.length_cons]; simp [c3v]; omega
theorem za10 (cs ds : List C3) : flat (cs ++ ds) = flat cs ++ flat ds := by
 induction cs with
 | nil => rfl
 | cons c cs ih => rw [List.cons_append, flat, flat, ih, List.append_assoc]
theorem zs15 (cs : List C3) : ∀ j, j < cs.length → (flat cs)[j * 3]? = some (O ι (cs.getD j k0).1) ∧ (flat cs)[j * 3 + 1]? = some (.float .f64 (cs.getD j k0).2.1) ∧ (flat cs)[j * 3 + 2]? = some (.float .f64 (cs.getD j k0).2.2) := by
 induction cs with
 | nil => intro j hj; simp at hj
 | cons c cs ih =>
  intro j hj
  match j with
  | 0 => exact ⟨rfl, rfl, rfl⟩
  | j + 1 =>
   have h := ih j (by simpa using hj)
   have e : ∀ i, (flat (c :: cs))[(j + 1) * 3 + i]? = (flat cs)[j * 3 + i]? := fun i => by
    rw [flat, List.getElem?_append_right (by simp [c3v]; omega)]
    congr 1
    simp [c3v]; omega
   have e0 := e 0
   rw [Nat.add_zero, Nat.add_zero] at e0
   rw [e0, e 1, e 2, List.getD_cons_succ]
   exact h
def OwnC (w' : World) (lo : Nat) (sa : Option Addr) (cs : List C3) : Prop := cs = [] ∨ ∃ g, sa = some ⟨g, 0, none⟩ ∧ lo ≤ g ∧ CRow w' g 0 cs ∧ ∀ o, w'.frozen? ⟨g, o, none⟩ = false
def CellsOk (w : World) (cs : List C3) (e : Ending) (w' : World) : Prop := ∃ (sa : Option Addr) (cap : Nat), e = .returned (σ sa cs.length cap) ∧ OwnC w' w.heap.size sa cs ∧ Below w.heap.size w w'
theorem ze4 {w : World} {base g n cap : Nat} {cs : List C3} (h : w.ownsRow base 66 3 (σ (some ⟨g, 0, none⟩) n cap) n (flat cs)) (hn : n = cs.length) : CRow w g 0 cs := fun j hj => by
 obtain ⟨a, b, c⟩ := zs15 cs j hj
 rw [Nat.zero_add]
 exact ⟨(h.cellAt _ (by omega)).trans a, (h.cellAt _ (by omega)).trans b, (h.cellAt _ (by omega)).trans c⟩
theorem zq4 {w3 : World} {lo base n : Nat} {v : Value} {cs : List C3} (hb : lo ≤ base) (h : w3.ownsRow base 66 3 v n (flat cs)) : ∃ sa cap, v = σ sa cs.length cap ∧ OwnC w3 lo sa cs := by
 have hl : n = cs.length := by have := h.1; rw [za5] at this; omega
 by_cases h0 : cs = []
 ·subst h0
  rcases h.2 with ⟨h1, h2⟩ | ⟨g, cap, cur, h1, h2, _⟩
  ·exact ⟨none, 0, by first | exact h1 | (rw [h1]; rfl), Or.inl rfl⟩
  ·exact ⟨_, _, by rw [h1, hl], Or.inl rfl⟩
 ·have hp : 0 < n := by rw [hl]; exact List.length_pos_iff.2 h0
  rcases h.2 with ⟨h1, h2⟩ | ⟨g, cap, cur, h1, h2, _⟩
  ·omega
  ·subst h1
   exact ⟨_, _, by rw [hl], Or.inr ⟨g, rfl, by omega, ze4 h hl, fun o => h.frozenAt o⟩⟩
def readL (ss : List St) (st : Int) (xs sv : List Int) (off : Int) : List C3 := (offsL xs sv off).map fun p => (ss.getD st.toNat s0).2.getD p.toNat k0
def readA (ss : List St) (st : Int) (xs sv : List Int) (off : Int) : List C3 := if vHeap ss = true ∧ GoodA ss st xs sv off then readL ss st xs sv off else []
theorem zm17 {w w1 w2 : World} {g : Nat} {row : Option Nat} (h : w.grownBy w1 (some g)) (k : w1.grownBy w2 row) (hr : row = some g ∨ ∃ j, row = some j ∧ w.heap.size ≤ j) : w.grownBy w2 (some g) :=
 ⟨k.os.trans h.os, k.tape.trans h.tape, k.output.trans h.output, Nat.le_trans h.size k.size, fun j hj hn => (k.block j (Nat.lt_of_lt_of_le hj h.size) (by
  rcases hr with rfl | ⟨i, rfl, hi⟩
  ·exact hn
  ·intro e; cases e; omega)).trans (h.block j hj hn)⟩
theorem zb1 {w w1 : World} {g : Nat} (h : w.grownBy w1 (some g)) {b o : Nat} {v : Value} (hb : b ≠ g) (hc : w.cell? ⟨b, o, none⟩ = some v) : w1.cell? ⟨b, o, none⟩ = some v := by
 rw [← hc]
 exact World.cell?_of_block (w := w) (a := ⟨b, o, none⟩) (h.block b (zj hc) (fun e => by cases e; exact hb rfl))
theorem zc14 {w w1 : World} {g : Nat} (h : w.grownBy w1 (some g)) (o : Obj) : w.grownBy (w1.alloc o) (some g) :=
 ⟨h.os, h.tape, h.output, by have := h.size; simp; omega, fun j hj hn => by
  have hs := h.size
  rw [← h.block j hj hn]
  exact ((Below.refl w1.heap.size w1).alloc (Nat.le_refl _) o).block j (by omega)⟩
theorem zn17 {w w1 : World} {r : Option Nat} (h : w.grownBy w1 r) : w.grownBy w1.drew r := ⟨h.os, h.tape, h.output, h.size, h.block⟩
theorem zt7 (c : C3) : ∀ u ∈ c3v c, u.oneCell' = true := fun u hu => by
 simp only [c3v, List.mem_cons, List.not_mem_nil, or_false] at hu
 rcases hu with rfl | rfl | rfl <;> rfl
theorem ze6 (cs : List C3) (c : C3) : flat (cs ++ [c]) = flat cs ++ c3v c := by rw [za10]; simp [flat]
end
section
open Go.ChangeShapes Go.RowKit Go.Shelf
abbrev PlN (N : Int) := { x : Int // 0 ≤ x ∧ x < N }
def pnv {N : Int} (ps : List (PlN N)) : List Int := ps.map (·.1)
theorem zd3 {N : Int} (p q : List (PlN N)) : pnv (p ++ q) = pnv p ++ pnv q := List.map_append ..
theorem zp9 {N : Int} (p : List (PlN N)) : (pnv p).length = p.length := List.length_map ..
theorem zq9 (N : Int) (n Bf n₀ : Nat) (xs ss : List Int) (off : Int) (h4 : xs.length ≤ 4) (hl : ss.length = xs.length) (hr : InR xs xs.length) (hp : prod xs ≤ 4096) (hss : InS ss ss.length) (ho : 0 ≤ off ∧ off ≤ 4096) (hPr : ∀ x ∈ offsL xs ss off, 0 ≤ x ∧ x < N) (w : World) (hn : n₀ ≤ w.heap.size)
  (hc : ∀ j, j < 10 → w.cell? ⟨Bf, j, none⟩ = (vw xs ss off)[j]?) (hBf : Bf < w.heap.size) :
  SeqStopsK Fence.wide n Tryz.prog 119 #[π (some ⟨Bf, 0, none⟩)] (fun x : PlN N => #[Value.int .i64 x.1]) (KC n₀) (fun ys => pnv ys = offsL xs ss off) (fun pre => pnv pre <+: offsL xs ss off) (offsL xs ss off).length w := fun l J Jx W hW hJ hJx hY h0 => by
 have hbW : w.heap.size ≤ W.heap.size := hW.size
 have hc2 : ∀ j, j < 10 → W.cell? ⟨Bf, j, none⟩ = (vw xs ss off)[j]? := fun j hj => (hW.cell (p := ⟨Bf, j, none⟩) hBf).trans (hc j hj)
 have key := zq8 n l Bf W.heap.size xs ss off h4 hl hr hp hss ho (fun x => 0 ≤ x ∧ x < N) hPr (fun pre W => ∃ ps, pnv ps = pre ∧ J ps W) (fun pre W => ∃ ps, pnv ps = pre ∧ Jx ps W)
  (fun pre A B row ⟨ps, e, h⟩ hg hrow => ⟨ps, e, hJ ps A B row h hg hrow⟩)
  (fun m pre x A hx ⟨ps, e, h⟩ hlen => by
   subst e
   have hy := zh6 m (hY ps ⟨x, hx⟩ A h (by rw [← zp9]; exact hlen))
   refine hy.mono ?_
   rintro e W' (⟨rfl, h1, h2⟩ | ⟨rfl, h1⟩)
   ·exact .inl ⟨rfl, ⟨_, zd3 _ _, h1⟩, ⟨h2.size, fun k o hb h hc => h2.keep k o (by omega) h hc⟩⟩
   ·exact .inr ⟨rfl, ⟨_, zd3 _ _, h1⟩⟩)
  W (Nat.le_refl _) hc2 ⟨[], rfl, h0⟩
 refine key.mono ?_
 rintro e W' ⟨hv, ⟨ys, rfl, ps, e1, h⟩ | ⟨pre, hpre, ps, e1, h⟩⟩
 ·exact ⟨hv, .inl ⟨ps, e1, h⟩⟩
 ·exact ⟨hv, .inr ⟨ps, by show pnv ps <+: _; rw [e1]; exact hpre, h⟩⟩
theorem zh15 (N : Int) (n Bf : Nat) (xs ss : List Int) (off : Int) (h4 : xs.length ≤ 4) (hl : ss.length = xs.length) (hr : InR xs xs.length) (hp : prod xs ≤ 4096) (hss : InS ss ss.length) (ho : 0 ≤ off ∧ off ≤ 4096) (hPr : ∀ x ∈ offsL xs ss off, 0 ≤ x ∧ x < N) (W : World) (hB : Bf = W.heap.size) :
  SeqStopsK Fence.wide n Tryz.prog 119 #[π (some ⟨Bf, 0, none⟩)] (fun x : PlN N => #[Value.int .i64 x.1]) (KC (W.alloc (χ (vw xs ss off) 83)).heap.size) (fun ys => pnv ys = offsL xs ss off) (fun pre => pnv pre <+: offsL xs ss off) (offsL xs ss off).length (W.alloc (χ (vw xs ss off) 83)) := by
 subst hB
 exact zq9 N n _ _ xs ss off h4 hl hr hp hss ho hPr _ (Nat.le_refl _) (fun j _ => zd W _ 83 W.heap.size rfl j) (by simp)
theorem zd27 {P : Program} {l n : Nat} {o : Oper} {a : Act} {w : World} {K : Act → World → Prop} {Q : Exit → Act → World → Prop} (hd : ∀ c, o.op ≠ .defer c) (h : o.wp P a w K Q) : o.wpIn (Fence.wide.inRound l) n P a w K Q := by
 refine ⟨fun _ _ => trivial, ?_⟩
 rw [Oper.semAt_eq _ _ _ hd]
 unfold Oper.wp at h
 generalize (execOp a.eval o).run P w = r at h
 cases r with
 | ok x w' =>
  cases x <;> simp only [Oper.upon, Oper.uponIn] at h ⊢ <;>
   first
    | exact h
    | exact ⟨fun e => by simp [Fence.wide] at e, CallsIn.inRound l (callsIn_wide.2 h)⟩
    | exact ⟨fun e => by simp [Fence.wide] at e, fun c cs _ => (by obtain ⟨v, w', r, s⟩ := h c cs; exact ⟨v, w', r, stepsIn_wide.2 s⟩)⟩
    | exact h.elim
 | halt x w' => cases x <;> simp only [Oper.upon, Oper.uponIn] at h ⊢ <;> first | exact h | exact h.elim
def noDefer (o : Oper) : Bool := match o.op with | .defer _ => false | _ => true
theorem zy15 {P : Program} {md : Region.Mode} {l n : Nat} {ops : Array Oper} {Q : Exit → Act → World → Prop} (hn : ¬ LetsOut Q) (hd : ops.toList.all noDefer = true) : ∀ (fuel : Nat) (listed : Array Bool) (a : Act) (w : World), wpAny P md ops Q fuel listed a w → wpAnyIn (Fence.wide.inRound l) n P md ops Q fuel listed a w
 | 0, _, _, _, h => h
 | fuel + 1, listed, a, w, h => ⟨h.1, fun i hi => by
  have h2 := h.2 i hi
  unfold wpOp at h2
  unfold wpOpIn
  cases ho : ops[i]? with
  | none => rw [ho] at h2; exact zy15 hn hd fuel _ _ _ h2
  | some o =>
   rw [ho] at h2
   have hdo : ∀ c, o.op ≠ .defer c := fun c e => by
    have hm : o ∈ ops.toList := by
     rw [Array.mem_toList_iff]
     exact Array.mem_of_getElem? ho
    have := List.all_eq_true.1 hd o hm
    unfold noDefer at this
    rw [e] at this
    cases this
   dsimp only at h2 ⊢
   by_cases hw : Region.wanted o (yielded ops a.tmps) = true
   ·rw [if_pos hw] at h2 ⊢
    rcases h2 with h2 | ⟨_, h2⟩
    ·exact Oper.wpIn_mono (fun a' w' h' => zy15 hn hd fuel _ _ _ h') (zd27 hdo h2)
    ·exact absurd h2 hn
   ·rw [if_neg hw] at h2 ⊢
    exact ⟨fun _ _ => trivial, zy15 hn hd fuel _ _ _ h2⟩⟩
def NQ (Q : Exit → Act → World → Prop) : Exit → Act → World → Prop := fun e a w => e = .normal ∧ Q .normal a w
theorem zh26 (Q : Exit → Act → World → Prop) : ¬ LetsOut (NQ Q) := by
 rintro ⟨a, w, e, _⟩
 cases e
theorem zq10 {P : Program} {id n l : Nat} {ops : Array Oper} {Q : Exit → Act → World → Prop} {S : World → Prop} {a : Act} {w : World} (hm : P.follows .mixedOrders = true) (hd : ops.toList.all noDefer = true)
  (h : wpAnyH P .any ops (NQ Q) S ops.size (Array.replicate ops.size false) a w.drew) : (Code.region id ops true).wpIn (Fence.wide.inRound l) n P Q a w :=
 wpIn_mono (wpIn_region_any hm (zy15 (zh26 Q) hd _ _ _ _ (wpAny_of_held _ _ _ _ h))) (fun e a w h => by obtain ⟨rfl, h⟩ := h; exact h)
theorem zs1 {P : Program} {w : World} {ops : Array Oper} {o : Oper} {a : Act} {K : Act → World → Prop} {Q : Exit → Act → World → Prop} {E : Prop}
  (hg : o.guard = none) (s x : Operand) (t : TypeId) (hop : o.op = Op.call { callee := Callee.builtin Builtin.append, args := #[s, x], argTypes := #[t, t] })
  (base : Nat) (e : TypeId) (i : TypeInfo) (size : Nat) (h1 : P.underlying t = some (.slice e)) (h2 : P.info? e = some i) (h4 : i.size = size)
  (g k cap : Nat) (xs : List Value) (hs : a.eval s = σ (some ⟨g, 0, none⟩) k cap) (hown : w.ownsRow base e size (σ (some ⟨g, 0, none⟩) k cap) k xs) (ad : Addr) (m c : Nat) (news : List Value) (hx : a.eval x = σ (some ad) m c) (hn : news.length = m * size)
  (hc : ∀ j u, news[j]? = some u → w.cell? (ad.add j) = some u) (h1c : ∀ u ∈ news, u.oneCell' = true) (b1 : k + m ≤ cap)
  (hK : ∀ w', w'.ownsRow base e size (σ (some ⟨g, 0, none⟩) (k + m) cap) (k + m) (xs ++ news) → w.grownBy w' (some g) → K (a.put o.dst (σ (some ⟨g, 0, none⟩) (k + m) cap)) w') :
  if Region.wanted o (yielded ops a.tmps) = true then Oper.wp P o a w K Q else E := by
 have hw : Region.wanted o (yielded ops a.tmps) = true := by simp [Region.wanted, hg]
 rw [if_pos hw]
 obtain ⟨w', hrun, r1, r2⟩ := run_append_fits (P := P) w base t o.type e i size h1 h2 h4 g k cap xs hown ad m c news hn hc h1c b1
 unfold Oper.wp
 simp [execOp, hop, resolve, invoke, builtin, hs, hx, hrun, Result.andThen]
 exact hK _ r1 r2
end
section
open Go.RowKit
section
variable {P : Program} {ops : Array Oper} {Q : Exit → Act → World → Prop} {md : Region.Mode} {S : World → Prop} {late : List Nat}
def waitsFor (md : Region.Mode) (ops : Array Oper) (i k : Nat) : Bool := match ops[k]? with
 | none => true
 | some o => o.after.any fun e => Region.binds md e && e.on == i
def wpAnyU (P : Program) (md : Region.Mode) (ops : Array Oper) (Q : Exit → Act → World → Prop) (S : World → Prop) (late : List Nat) : Nat → Array Bool → Act → World → Prop
 | 0, l, a, w => Region.ready md ops l = [] ∧ Q .normal a w
 | f + 1, l, a, w => (Region.ready md ops l = [] → Q .normal a w) ∧
  ∀ i ∈ Region.ready md ops l, wpOp P ops Q i (fun a' w' => (late.contains i = false → S w') ∧ wpAnyU P md ops Q S late f (l.setIfInBounds i true) a' w') a w
theorem ze5 : ∀ (f : Nat) (l : Array Bool) (a : Act) (w : World), wpAnyU P md ops Q S late f l a w → wpAny P md ops Q f l a w
 | 0, _, _, _, h => h
 | f + 1, _, _, _, h => ⟨h.1, fun i hi => wpOp_mono (fun a' w' h' => ze5 f _ a' w' h'.2) (h.2 i hi)⟩
theorem zi {i : Nat} {oi : Oper} {v : Value} (hi : ops[i]? = some oi) (hs : Region.noSelect ops = true) (hl : (late.all (waitsFor md ops i)) = true)
  (hQ : ∀ c a w, Q (.panic c) (a.put oi.dst v) w → Q (.panic c) a w) (f : Nat) : ∀ {l : Array Bool} {a : Act} {w : World},
  Region.free md ops l i = true → (Region.ready md ops l).contains i = true → YieldsIf P ops S oi v a → S w →
  wpAnyU P md ops Q S late f (l.setIfInBounds i true) (a.put oi.dst v) w → wpAnyU P md ops Q S late (f + 1) l a w := by
 have key : ∀ (f : Nat) (l : Array Bool) (a : Act) (w : World),
   (∀ j oj, ops[j]? = some oj → j ≠ i → l.getD j true = false → (∀ e ∈ oj.after, Region.binds md e = true → e.on ≠ i) → oi.apart ops oj = true) →
   i ∈ Region.ready md ops l → YieldsIf P ops S oi v a → S w →
   wpAnyU P md ops Q S late f (l.setIfInBounds i true) (a.put oi.dst v) w → wpAnyU P md ops Q S late (f + 1) l a w := by
  intro f
  induction f with
  | zero =>
   intro l a w _ hr hy hS H
   refine ⟨fun h => (by rw [h] at hr; cases hr), fun j hj => ?_⟩
   by_cases e : j = i
   ·subst e
    exact hy.wpOp hi hS ⟨fun _ => hS, H⟩
   ·have h0 := ready_mono hj e
    rw [H.1] at h0
    cases h0
  | succ f ih =>
   intro l a w hfr hr hy hS H
   refine ⟨fun h => (by rw [h] at hr; cases hr), fun j hj => ?_⟩
   by_cases e : j = i
   ·subst e
    exact hy.wpOp hi hS ⟨fun _ => hS, H⟩
   obtain ⟨hju, oj, hoj, hal⟩ := mem_ready.1 hj
   have hiu := (mem_ready.1 hr).1
   have hno : ∀ x ∈ oj.after, Region.binds md x = true → x.on ≠ i := fun x hx hb q => by
    have h1 := hal x hx hb
    rw [q] at h1
    rcases Nat.lt_or_ge i l.size with h' | h'
    ·simp [h'] at hiu h1
     rw [hiu] at h1; cases h1
    ·simp [Array.getElem?_eq_none h'] at h1
   have hnl : late.contains j = false := by
    cases hc : late.contains j with
    | false => rfl
    | true =>
     have h2 := List.all_eq_true.1 hl j (by simpa using hc)
     unfold waitsFor at h2
     rw [hoj] at h2
     simp only [Array.any_eq_true', Bool.and_eq_true, beq_iff_eq] at h2
     obtain ⟨x, hx, hb, ho⟩ := h2
     exact absurd ho (hno x hx hb)
   have step := wpOp_putIf hoj (hfr j oj hoj e hju hno) (fun cs b => Region.noSelect_spec hs i oi cs b hi) (fun cs b => Region.noSelect_spec hs j oj cs b hoj) hQ hy (H.2 j (ready_mono hj e))
   refine wpOp_mono (fun a' w' h3 => ⟨h3.2.1, ih (l.setIfInBounds j true) a' w' (fun k ok hk hki hun hn => hfr k ok hk hki ?_ hn) (ready_mono hr (Ne.symm e)) h3.1 (h3.2.1 hnl) ?_⟩) step
   ·by_cases q : j = k
    ·subst q; exact hju
    ·rw [getD_set_ne true q] at hun; exact hun
   ·rw [Array.setIfInBounds_comm _ _ e]
    exact h3.2.2
 intro l a w hf hr hy hS h
 exact key f l a w (Region.free_spec hi hf) (by simpa using hr) hy hS h
theorem ze {i : Nat} {o : Oper} {f : Nat} {l : Array Bool} {a : Act} {w : World} (hr : Region.ready md ops l = [i]) (ho : ops[i]? = some o)
  (h : ∀ K' : Act → World → Prop, Shut (∀ a w, (late.contains i = false → S w) → wpAnyU P md ops Q S late f (l.setIfInBounds i true) a w → K' a w) → if Region.wanted o (yielded ops a.tmps) = true then Oper.wp P o a w K' Q else K' (a.put o.dst undef) w) :
  wpAnyU P md ops Q S late (f + 1) l a w := by
 refine ⟨fun h0 => (by rw [hr] at h0; cases h0), fun j hj => ?_⟩
 rw [hr] at hj
 obtain rfl : j = i := by simpa using hj
 exact wpOp_step ho (fun K' hK => h K' (fun a w h1 h2 => hK a w ⟨h1, h2⟩))
theorem zg {l : Array Bool} {a : Act} {w : World} (hr : Region.ready md ops l = []) (h : Q .normal a w) : ∀ f, wpAnyU P md ops Q S late f l a w
 | 0 => ⟨hr, h⟩
 | _ + 1 => ⟨fun _ => h, by rw [hr]; simp⟩
theorem zs2 {id : Nat} {a : Act} {w : World} (hm : P.follows .mixedOrders = true)
  (h : wpAnyU P .any ops (NQ Q) S late ops.size (Array.replicate ops.size false) a w.drew) : (Code.region id ops true).wp P Q a w :=
 Code.wp_mono (fun e a w h => by obtain ⟨rfl, h⟩ := h; exact h) (wp_region_any hm (ze5 _ _ _ _ h))
end
end
section
open Go.RowKit
section
variable {P : Program} {ops : Array Oper} {Q : Exit → Act → World → Prop} {md : Region.Mode} {S T : World → Prop} {late : List Nat}
def early (late : List Nat) (l : Array Bool) : Bool := late.all fun k => !(l.getD k true)
theorem zc5 {l : Array Bool} {j : Nat} (h : late.contains j = false) : early late (l.setIfInBounds j true) = early late l := by
 unfold early
 rw [Bool.eq_iff_iff, List.all_eq_true, List.all_eq_true]
 have hne : ∀ k ∈ late, j ≠ k := fun k hk e => by
  subst e
  have : late.contains j = true := by simpa using hk
  rw [h] at this; cases this
 exact ⟨fun q k hk => by have := q k hk; rwa [getD_set_ne true (hne k hk)] at this, fun q k hk => by rw [getD_set_ne true (hne k hk)]; exact q k hk⟩
def wpAnyV (P : Program) (md : Region.Mode) (ops : Array Oper) (Q : Exit → Act → World → Prop) (S T : World → Prop) (late : List Nat) : Nat → Array Bool → Act → World → Prop
 | 0, l, a, w => Region.ready md ops l = [] ∧ Q .normal a w
 | f + 1, l, a, w => (Region.ready md ops l = [] → Q .normal a w) ∧
  ∀ i ∈ Region.ready md ops l, wpOp P ops Q i (fun a' w' => (T w' ∧ (early late (l.setIfInBounds i true) = true → S w')) ∧ wpAnyV P md ops Q S T late f (l.setIfInBounds i true) a' w') a w
theorem zc8 : ∀ (f : Nat) (l : Array Bool) (a : Act) (w : World), wpAnyV P md ops Q S T late f l a w → wpAny P md ops Q f l a w
 | 0, _, _, _, h => h
 | f + 1, _, _, _, h => ⟨h.1, fun i hi => wpOp_mono (fun a' w' h' => zc8 f _ a' w' h'.2) (h.2 i hi)⟩
theorem zd8 {i : Nat} {oi : Oper} {v : Value} {R : World → Prop} (hi : ops[i]? = some oi) (hs : Region.noSelect ops = true) (hil : late.contains i = false)
  (hQ : ∀ c a w, Q (.panic c) (a.put oi.dst v) w → Q (.panic c) a w) (C : Array Bool → Prop)
  (hC : ∀ l j oj, C l → ops[j]? = some oj → (∀ e ∈ oj.after, Region.binds md e = true → e.on ≠ i) → C (l.setIfInBounds j true))
  (hR : ∀ l w, C l → T w → (early late l = true → S w) → R w) (f : Nat) : ∀ (l : Array Bool) (a : Act) (w : World), C l →
   (∀ j oj, ops[j]? = some oj → j ≠ i → l.getD j true = false → (∀ e ∈ oj.after, Region.binds md e = true → e.on ≠ i) → oi.apart ops oj = true) →
   i ∈ Region.ready md ops l → YieldsIf P ops R oi v a → T w → (early late l = true → S w) →
   wpAnyV P md ops Q S T late f (l.setIfInBounds i true) (a.put oi.dst v) w → wpAnyV P md ops Q S T late (f + 1) l a w := by
 induction f with
 | zero =>
  intro l a w hc _ hr hy hT hS H
  refine ⟨fun h => (by rw [h] at hr; cases hr), fun j hj => ?_⟩
  by_cases e : j = i
  ·subst e
   exact hy.wpOp hi (hR l w hc hT hS) ⟨⟨hT, fun q => hS (by rw [zc5 hil] at q; exact q)⟩, H⟩
  ·have h0 := ready_mono hj e
   rw [H.1] at h0
   cases h0
 | succ f ih =>
  intro l a w hc hfr hr hy hT hS H
  refine ⟨fun h => (by rw [h] at hr; cases hr), fun j hj => ?_⟩
  by_cases e : j = i
  ·subst e
   exact hy.wpOp hi (hR l w hc hT hS) ⟨⟨hT, fun q => hS (by rw [zc5 hil] at q; exact q)⟩, H⟩
  obtain ⟨hju, oj, hoj, hal⟩ := mem_ready.1 hj
  have hiu := (mem_ready.1 hr).1
  have hno : ∀ x ∈ oj.after, Region.binds md x = true → x.on ≠ i := fun x hx hb q => by
   have h1 := hal x hx hb
   rw [q] at h1
   rcases Nat.lt_or_ge i l.size with h' | h'
   ·simp [h'] at hiu h1
    rw [hiu] at h1; cases h1
   ·simp [Array.getElem?_eq_none h'] at h1
  have step := wpOp_putIf hoj (hfr j oj hoj e hju hno) (fun cs b => Region.noSelect_spec hs i oi cs b hi) (fun cs b => Region.noSelect_spec hs j oj cs b hoj) hQ hy (H.2 j (ready_mono hj e))
  have hE : early late ((l.setIfInBounds i true).setIfInBounds j true) = early late (l.setIfInBounds j true) := by
   rw [Array.setIfInBounds_comm _ _ (Ne.symm e), zc5 hil]
  refine wpOp_mono (fun a' w' h3 => ?_) step
  obtain ⟨h4, ⟨h5, h6⟩, h7⟩ := h3
  rw [hE] at h6
  refine ⟨⟨h5, h6⟩, ih (l.setIfInBounds j true) a' w' (hC l j oj hc hoj hno) (fun k ok hk hki hun hn => hfr k ok hk hki ?_ hn) (ready_mono hr (Ne.symm e)) h4 h5 h6 ?_⟩
  ·by_cases q : j = k
   ·subst q; exact hju
   ·rw [getD_set_ne true q] at hun; exact hun
  ·rw [Array.setIfInBounds_comm _ _ e]
   exact h7
theorem zr12 {i : Nat} {oi : Oper} {v : Value} (hi : ops[i]? = some oi) (hs : Region.noSelect ops = true) (hil : late.contains i = false)
  (hQ : ∀ c a w, Q (.panic c) (a.put oi.dst v) w → Q (.panic c) a w) (f : Nat) {l : Array Bool} {a : Act} {w : World}
  (hf : Region.free md ops l i = true) (hr : (Region.ready md ops l).contains i = true) (hy : YieldsIf P ops T oi v a) (hT : T w) (hS : early late l = true → S w)
  (h : wpAnyV P md ops Q S T late f (l.setIfInBounds i true) (a.put oi.dst v) w) : wpAnyV P md ops Q S T late (f + 1) l a w :=
 zd8 hi hs hil hQ (fun _ => True) (fun _ _ _ _ _ _ => trivial) (fun _ _ _ h _ => h) f l a w trivial (Region.free_spec hi hf) (by simpa using hr) hy hT hS h
theorem zq12 {i : Nat} {oi : Oper} {v : Value} (hi : ops[i]? = some oi) (hs : Region.noSelect ops = true) (hil : late.contains i = false) (hl : (late.all (waitsFor md ops i)) = true)
  (hQ : ∀ c a w, Q (.panic c) (a.put oi.dst v) w → Q (.panic c) a w) (f : Nat) {l : Array Bool} {a : Act} {w : World} (he : early late l = true)
  (hf : Region.free md ops l i = true) (hr : (Region.ready md ops l).contains i = true) (hy : YieldsIf P ops S oi v a) (hT : T w) (hS : S w)
  (h : wpAnyV P md ops Q S T late f (l.setIfInBounds i true) (a.put oi.dst v) w) : wpAnyV P md ops Q S T late (f + 1) l a w :=
 zd8 hi hs hil hQ (fun l => early late l = true) (fun l j oj hc hoj hno => by
   have hnl : late.contains j = false := by
    cases hc : late.contains j with
    | false => rfl
    | true =>
     have h2 := List.all_eq_true.1 hl j (by simpa using hc)
     unfold waitsFor at h2
     rw [hoj] at h2
     simp only [Array.any_eq_true', Bool.and_eq_true, beq_iff_eq] at h2
     obtain ⟨x, hx, hb, ho⟩ := h2
     exact absurd ho (hno x hx hb)
   rw [zc5 hnl]; exact hc) (fun _ _ hc _ h => h hc) f l a w he (Region.free_spec hi hf) (by simpa using hr) hy hT (fun _ => hS) h
theorem zu1 {i : Nat} {o : Oper} {f : Nat} {l : Array Bool} {a : Act} {w : World} (hr : Region.ready md ops l = [i]) (ho : ops[i]? = some o)
  (h : ∀ K' : Act → World → Prop, Shut (∀ a w, T w → (early late (l.setIfInBounds i true) = true → S w) → wpAnyV P md ops Q S T late f (l.setIfInBounds i true) a w → K' a w) → if Region.wanted o (yielded ops a.tmps) = true then Oper.wp P o a w K' Q else K' (a.put o.dst undef) w) :
  wpAnyV P md ops Q S T late (f + 1) l a w := by
 refine ⟨fun h0 => (by rw [hr] at h0; cases h0), fun j hj => ?_⟩
 rw [hr] at hj
 obtain rfl : j = i := by simpa using hj
 exact wpOp_step ho (fun K' hK => h K' (fun a w h1 h2 h3 => hK a w ⟨⟨h1, h2⟩, h3⟩))
theorem zh3 {l : Array Bool} {a : Act} {w : World} (hr : Region.ready md ops l = []) (h : Q .normal a w) : ∀ f, wpAnyV P md ops Q S T late f l a w
 | 0 => ⟨hr, h⟩
 | _ + 1 => ⟨fun _ => h, by rw [hr]; simp⟩
end
end
section
open Go.RowKit FL
def InSy (g h n : Nat) (bs : List Nat) (b : Nat) : Prop := b = g ∨ b = h ∨ ∃ i, i < n ∧ b = bs.getD i 0
def Among (n : Nat) (bs bs1 : List Nat) : Prop := ∀ i, i < n → ∃ j, j < n ∧ bs1.getD i 0 = bs.getD j 0
def ElSt (w W1 : World) (g h n : Nat) (bs : List Nat) (t : Sys) (k : Nat) (wr : World) : Prop := ∃ (bs1 : List Nat) (s1 t1 : Sys), t.elim k = some t1 ∧ SysIn wr g h n bs1 s1 ∧ SmS s1 t1 ∧ Among n bs bs1 ∧ MutP (InSy g h n bs) W1 wr
def ElOk (w : World) (g h n : Nat) (bs : List Nat) (t : Sys) (e : Ending) (w' : World) : Prop := MutP (InSy g h n bs) w w' ∧ ((t.elim n = none ∧ e = .returned (.bool false)) ∨
 (e = .returned (.bool true) ∧ ∃ (bs1 : List Nat) (s1 t1 : Sys), t.elim n = some t1 ∧ SysIn w' g h n bs1 s1 ∧ SmS s1 t1 ∧ Among n bs bs1))
def LA (x r : Nat) : Prop := nanD r = nanD x ∧ (nanD x = false → keyD r = keyD (absF x))
section
attribute [local go_sem] zw3 zt3 zv3 zu3
end
end
section
open Go.RowKit FL
structure SysSp (w : World) (g n : Nat) (bs cps : List Nat) (s : Sys) : Prop where
 sq : s.Sq n
 a : ∀ i, i < n → w.cell? ⟨g, i * 2, none⟩ = some (σ (some ⟨bs.getD i 0, 0, none⟩) n (cps.getD i 0))
 b : ∀ i, i < n → w.cell? ⟨g, i * 2 + 1, none⟩ = some (.float .f64 (s.rt i))
 ofz : ∀ o, w.frozen? ⟨g, o, none⟩ = false
 row : ∀ i, i < n → FRow w (bs.getD i 0) (s.1.getD i [])
 b64 : ∀ i, B64 (s.rt i)
 nd : ∀ i j, i < n → j < n → i ≠ j → bs.getD i 0 ≠ bs.getD j 0
 gb : ∀ i, i < n → bs.getD i 0 ≠ g
 len : bs.length = n
 lenc : cps.length = n
def swp (w : World) (g k p : Nat) (Ap Bp Ak Bk : Value) : World := (((w.setCell ⟨g, k * 2, none⟩ Ap).setCell ⟨g, k * 2 + 1, none⟩ Bp).setCell ⟨g, p * 2, none⟩ Ak).setCell ⟨g, p * 2 + 1, none⟩ Bk
def InG (g n : Nat) (bs : List Nat) (b : Nat) : Prop := b = g ∨ ∃ i, i < n ∧ b = bs.getD i 0
def LsSt (w : World) (g n : Nat) (bs : List Nat) (t : Sys) (k : Nat) (wr : World) : Prop := ∃ (bs1 cps1 : List Nat) (s1 t1 : Sys), t.elim k = some t1 ∧ SysSp wr g n bs1 cps1 s1 ∧ SmS s1 t1 ∧ Among n bs bs1 ∧ MutP (InG g n bs) w wr
def LsOk (w : World) (n : Nat) (t : Sys) (e : Ending) (w' : World) (g : Nat) (bs : List Nat) : Prop := MutP (InG g n bs) w w' ∧ ((t.elim n = none ∧ ∃ v, e = .returned (.tuple #[v, .bool false])) ∨
 (∃ (t1 : Sys) (b : Nat) (X : List Nat), t.elim n = some t1 ∧ e = .returned (.tuple #[σ (some ⟨b, 0, none⟩) n n, .bool true]) ∧ FRow w' b X ∧ X.length = n ∧ SmL X (t1.back n)))
section
attribute [local go_sem] zw3 zt3 zv3 zu3
end
end
section
open Go.ChangeShapes Go.RowKit Go.Shelf
attribute [local go_sem] Oper.semAt_some
structure KB (p : Nat → Prop) (A B : World) : Prop where
 size : A.heap.size ≤ B.heap.size
 keep : ∀ k o, p k → A.heap[k]? = some o → o.isCells = true → B.heap[k]? = some o
theorem KB.refl (p : Nat → Prop) (A : World) : KB p A A := ⟨Nat.le_refl _, fun _ _ _ h _ => h⟩
theorem KB.trans {p : Nat → Prop} {A B C : World} (x : KB p A B) (y : KB p B C) : KB p A C := ⟨Nat.le_trans x.size y.size, fun k o hb h hc => y.keep k o hb (x.keep k o hb h hc) hc⟩
theorem KB.cell {p : Nat → Prop} {A B : World} (x : KB p A B) {k o : Nat} {v : Value} (hb : p k) (h : A.cell? ⟨k, o, none⟩ = some v) : B.cell? ⟨k, o, none⟩ = some v := by
 obtain ⟨ob, h1, h2⟩ := cells_of_cell h
 exact (World.cell?_of_block (w := A) (a := ⟨k, o, none⟩) ((x.keep k ob hb h1 h2).trans h1.symm)).trans h
theorem zo26 {p : Nat → Prop} {w : World} (W : World) (l : Nat) (o o' : Obj) (_ : w.heap.size ≤ l) (h : W.heap[l]? = some o) (hc : o.isCells = false) (_ : o.isWalk = false) : KB p W (W.putObj l o') := by
 have g := grownBy_putObj' W l o'
 refine ⟨g.size, fun k o2 hb h2 hc2 => ?_⟩
 have hk : k < W.heap.size := (Array.getElem?_eq_some_iff.1 h2).1
 have hne : k ≠ l := fun e => by
  subst e
  rw [h] at h2
  cases h2
  rw [hc] at hc2
  cases hc2
 exact (g.block k hk (fun e => hne (by cases e; rfl))).trans h2
theorem grown_drew' (W : World) : W.grownBy W.drew none := ⟨rfl, rfl, rfl, Nat.le_refl _, fun _ _ _ => rfl⟩
theorem zk20 (n l b Bs Bn bc cp R K : Nat) (hK : 0 < K) (hRK : R * K ≤ 4096) (hcp : R * K ≤ cp) (J Jx : List Nat → World → Prop) (hJ : AbidesFrom b J)
  (hY : ∀ m pre x W, x < R → J pre W → pre.length < R → YieldAt Fence.wide m Tryz.prog l #[σ (some ⟨bc, x * K * 3, none⟩) K K] W fun e W' =>
   (e = .returned (.bool true) ∧ J (pre ++ [x]) W' ∧ KB (fun k => k = Bs ∨ k = Bn) W W') ∨ (e = .returned (.bool false) ∧ Jx (pre ++ [x]) W'))
  (W : World) (hb : b ≤ W.heap.size) (cs : W.cell? ⟨Bs, 0, none⟩ = some (σ (some ⟨bc, 0, none⟩) (R * K : Nat) cp)) (cn : W.cell? ⟨Bn, 0, none⟩ = some (O ι K)) (h0 : J [] W) :
  CallsIn Fence.wide n Tryz.prog 122 #[.func (.yield l) #[] #[], π (some ⟨Bs, 0, none⟩), π (some ⟨Bn, 0, none⟩)] W fun e W' => (∃ v, e = .returned v) ∧
   ((∃ ys, ys = List.range R ∧ J ys W') ∨ (∃ pre, pre <+: List.range R ∧ Jx pre W')) := by
 have hdd : ∀ k : Nat, (Fence.wide.depth.isSome = true → 1 ≤ k) := fun k h => by cases h
 have HY := hide hY
 clear hY
 obtain ⟨T, hT⟩ : ∃ T, T = R * K := ⟨_, rfl⟩
 have HTT := hide hT
 rw [← hT] at hRK hcp cs
 clear hT
 refine callsIn_of_wp Tryz.func122 rfl trivial ?_ rfl
 simp only [Tryz.ntmps122, List.size_toArray, List.length_cons, List.length_nil, Nat.reduceAdd, Nat.reduceSub, Array.replicate_succ, Array.replicate_zero, List.push_toArray, List.append_toArray, List.nil_append, List.cons_append]
 gi_wp2
 gi_loopw [4] (fun i wr => ∃ (k I : Nat), I = k * K ∧ i = O ι I ∧ k ≤ R ∧ J (List.range k) wr ∧ KB (fun k => k = Bs ∨ k = Bn) W wr) (fun i _ => T - (intOf i).toNat)
 case atStart => exact ⟨0, 0, by omega, rfl, by omega, h0, KB.refl _ _⟩
 case round =>
  obtain ⟨k, I, hI, rfl, hk, hJk, hKk⟩ := hrel
  have cs := hKk.cell (Or.inl rfl) cs
  have cn := hKk.cell (Or.inr rfl) cn
  by_cases hlt : k < R
  ·have hIK : I + K ≤ T := by
    have : (k + 1) * K ≤ R * K := Nat.mul_le_mul_right K hlt
    rw [Nat.add_mul, Nat.one_mul, ← hI, ← HTT.out] at this
    exact this
   have hd : decide ((I : Int) < (T : Int)) = true := decide_eq_true (by omega)
   have hmin : min (K : Int) ((T - I : Nat) : Int) = (K : Int) := by omega
   have i0 : (0 : Int) ≤ (I : Int) := Int.natCast_nonneg _
   have i1 : (I : Int) ≤ (T : Int) := by omega
   have HI := hide hI
   have hJd : J (List.range k) wr.drew := hJ (List.range k) wr wr.drew none hJk (grown_drew' wr) (fun r e => by cases e)
   have hYk := HY.out (n - 1) (List.range k) k wr.drew hlt hJd (by rw [List.length_range]; exact hlt)
   rw [← hI] at hYk
   clear hI
   obtain ⟨fn, tmps, assign, body, hy, hR⟩ := hYk
   gi_wp2
   gi_region
   gi_wp2
   refine ⟨hdd _, hR.mono ?_⟩
   have hr1 : List.range (k + 1) = List.range k ++ [k] := List.range_succ
   have Hr1 := hide hr1
   clear hr1
   rintro e W2 (⟨rfl, hJ2, hk2⟩ | ⟨rfl, hx2⟩)
   ·have cn2 := hk2.cell (Or.inr rfl) (show wr.drew.cell? _ = _ from cn)
    have HK2 := hide (hKk.trans (KB.trans (B := wr.drew) ⟨Nat.le_refl _, fun _ _ _ h _ => h⟩ hk2))
    have HJ2 := hide hJ2
    clear hk2 hJ2 hR hy
    gi_wp2
    go_roundw
    ·exact ⟨k + 1, I + K, by rw [HI.out, Nat.add_mul, Nat.one_mul], by go_num, by omega, by rw [Hr1.out]; exact HJ2.out, HK2.out⟩
    ·simp [intOf]; omega
   ·have HX2 := hide hx2
    clear hx2 hR hy
    gi_wp2
    refine bodyPost_ret (results_none rfl _ _ _) rfl ?_
    exact ⟨⟨_, rfl⟩, .inr ⟨_, by
     rw [← Hr1.out]
     rw [show List.range (k + 1) = (List.range R).take (k + 1) by rw [List.take_range]; congr 1; omega]
     exact List.take_prefix _ _, HX2.out⟩⟩
  ·have hkk : k = R := by omega
   subst hkk
   have hIT : I = T := by rw [hI, HTT.out]
   subst hIT
   clear hI
   gi_wp2
   go_end0
   exact ⟨⟨_, rfl⟩, .inl ⟨_, rfl, hJk⟩⟩
abbrev Ln (R : Nat) := { x : Nat // x < R }
def lnv {R : Nat} (ps : List (Ln R)) : List Nat := ps.map (·.1)
theorem zl5 {R : Nat} (p q : List (Ln R)) : lnv (p ++ q) = lnv p ++ lnv q := List.map_append ..
theorem zi19 {R : Nat} (p : List (Ln R)) : (lnv p).length = p.length := List.length_map ..
theorem zo14 (n Bs Bn bc cp R K : Nat) (hK : 0 < K) (hRK : R * K ≤ 4096) (hcp : R * K ≤ cp) (w : World)
  (cs : w.cell? ⟨Bs, 0, none⟩ = some (σ (some ⟨bc, 0, none⟩) (R * K : Nat) cp)) (cn : w.cell? ⟨Bn, 0, none⟩ = some (O ι K)) :
  SeqStopsK Fence.wide n Tryz.prog 122 #[π (some ⟨Bs, 0, none⟩), π (some ⟨Bn, 0, none⟩)] (fun x : Ln R => #[Value.slice (some ⟨bc, x.1 * K * 3, none⟩) K K]) (KB (fun k => k = Bs ∨ k = Bn)) (fun ys => lnv ys = List.range R) (fun pre => lnv pre <+: List.range R) R w := fun l J Jx W hW hJ hJx hY h0 => by
 have key := zk20 n l W.heap.size Bs Bn bc cp R K hK hRK hcp (fun pre W => ∃ ps, lnv ps = pre ∧ J ps W) (fun pre W => ∃ ps, lnv ps = pre ∧ Jx ps W)
  (fun pre A B row ⟨ps, e, h⟩ hg hrow => ⟨ps, e, hJ ps A B row h hg hrow⟩)
  (fun m pre x A hx ⟨ps, e, h⟩ hlen => by
   subst e
   have hy := zh6 m (hY ps ⟨x, hx⟩ A h (by rw [← zi19]; exact hlen))
   refine hy.mono ?_
   rintro e W' (⟨rfl, h1, h2⟩ | ⟨rfl, h1⟩)
   ·exact .inl ⟨rfl, ⟨_, zl5 _ _, h1⟩, h2⟩
   ·exact .inr ⟨rfl, ⟨_, zl5 _ _, h1⟩⟩)
  W (Nat.le_refl _) ((hW.cell (p := ⟨Bs, 0, none⟩) (zj cs)).trans cs) ((hW.cell (p := ⟨Bn, 0, none⟩) (zj cn)).trans cn) ⟨[], rfl, h0⟩
 refine key.mono ?_
 rintro e W' ⟨hv, ⟨ys, rfl, ps, e1, h⟩ | ⟨pre, hpre, ps, e1, h⟩⟩
 ·exact ⟨hv, .inl ⟨ps, e1, h⟩⟩
 ·exact ⟨hv, .inr ⟨ps, by show lnv ps <+: _; rw [e1]; exact hpre, h⟩⟩
theorem zj20 (n : Nat) (sa : Option Addr) (L cp K : Nat) (hK : 0 < K) (hK2 : K ≤ 4096) (w : World) :
  CallsIn Fence.wide n Tryz.prog 84 #[σ sa L cp, O ι K] w fun e w' => e = .returned (.func (.func 122) #[] #[π (some ⟨w.heap.size, 0, none⟩), π (some ⟨w.heap.size + 1, 0, none⟩)]) ∧ w' = (w.alloc (χ #[σ sa L cp] 61)).alloc (χ #[O ι K] 3) := by
 have hd : decide ((K : Int) < 1) = false := decide_eq_false (by omega)
 refine callsIn_of_wp Tryz.func84 rfl trivial ?_ rfl
 simp only [Tryz.ntmps84, List.size_toArray, List.length_cons, List.length_nil, Nat.reduceAdd, Nat.reduceSub, Array.replicate_succ, Array.replicate_zero, List.push_toArray, List.append_toArray, List.nil_append, List.cons_append]
 gi_wp2
 go_ret
 exact ⟨rfl, rfl⟩
end
section
open Go.RowKit FL Go.ChangeShapes
def fvals (L : List Nat) : List Value := L.map (.float .f64 ·)
end
end Go.Proofs.YtfhcpicddegblaaGreat
