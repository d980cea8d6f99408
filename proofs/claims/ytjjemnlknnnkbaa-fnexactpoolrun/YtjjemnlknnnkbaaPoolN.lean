import Derived.Test.YtjjemnlknnnkbaaPoolL
import Derived.Deep.RegionHeld3
import Derived.Deep.RegionWith
namespace Go.Proofs.Ytjjemnlknnnkbaa
open Go.ChangeShapes Go.RowKit Go.Lib Go.ChangeMaps
set_option linter.unusedSimpArgs false
set_option linter.unusedVariables false
def GiveOk (w : World) (base P Mb n : Nat) (budget : Int) (code : Int) (bs' : List Blk) (e : Ending) (w' : World) : Prop :=
  e = .returned (.int .i64 code) ∧ Pl w' base P Mb (n + 1) budget bs' ∧ Kp base P w w'

theorem give_put {W W5 : World} {base P Mb n : Nat} {sum budget : Int} {bs : List Blk} {zs : List IB} {vB : Value} {M : Int → Value} {F : Int → List Int} (h : PIv W base P Mb n sum budget bs zs vB M F) {S : Int} (hwf : (Lit.int .i64 S).wf = true) {vS v5 : Value} (hvS : M S = vS) {L : List Int} (hf : FV W5 v5 L) (hg : W.grownBy W5 vS.ownBlock) (hat : v5.ownBlock = vS.ownBlock ∨ ∃ k, v5.ownBlock = some k ∧ W.heap.size ≤ k) :
    ∃ W6, (Instr.mapUpdate 86 (.map (some Mb)) (.int .i64 S) v5).run Try.prog W5 = .ok () W6 ∧ PIv W6 base P Mb (n + 1) sum budget bs zs vB (fun x => if x = S then v5 else M x) (fun x => if x = S then L else F x) ∧ Kp base P W W6 ∧ W5.cell? ⟨P, 5, none⟩ = some (.map (some Mb)) := by
  subst hvS
  have nm : some Mb ≠ (M S).ownBlock := fun e => by
    obtain ⟨cur, h1⟩ := (h.fr S).blk e.symm
    obtain ⟨es, c, h2⟩ := h.mBlk
    rw [h1] at h2; cases h2
  have hm5 := h.mp.row hg nm
  obtain ⟨es, c, h1, _⟩ := id hm5
  obtain ⟨es', c', hput, hM⟩ := mp_put hm5 hwf v5
  refine ⟨_, hput, h.reF S hg hf (fun k hk => ?_) (setBlock_grown h1) hM, (Kp.of hg fun k e => ?_).trans (Kp.of (setBlock_grown h1) fun k e => ?_), (h.pb.row hg (fun e => h.pf S e.symm)).c5⟩
  · rcases hat with q | ⟨j, q, q2⟩
    · exact Or.inl (by rw [← q]; exact hk)
    · rw [q] at hk; cases hk; exact Or.inr q2
  · obtain ⟨cur, h2⟩ := (h.fr S).blk e
    exact ⟨h.lof S k e, Or.inr fun c e1 => by rw [h2] at e1; cases e1⟩
  · cases e
    exact ⟨h.lo.2.1, Or.inr fun c e1 => by rw [h1] at e1; cases e1⟩

set_option maxRecDepth 100000 in
set_option maxHeartbeats 1000000 in
theorem give_bad {w : World} {base P Mb n : Nat} {budget : Int} {bs : List Blk} (h : Pl w base P Mb n budget bs) (x : Int) (hx : liveAt bs x = false) :
    Calls Try.prog 42 #[.pointer (some ⟨P, 0, none⟩), .int .i64 x] w fun e w' => GiveOk w base P Mb n budget 15 bs e w' := by
  have Hres : Hid (GiveOk w base P Mb n budget 15 bs (.returned (.int .i64 15)) w) := ⟨rfl, h.more (Nat.le_succ n), Kp.refl _ _ _⟩
  obtain ⟨zs, vB, M, h⟩ := h
  have hlv := isLive_any h x
  rw [hx] at hlv
  clear h
  go_enter Try.func42, Try.ntmps42
  go_wp2_with (go_at_call 48; refine hlv.mono ?_; rintro e w' ⟨rfl, rfl⟩)
  go_ret
  exact Hres.out

set_option maxRecDepth 100000 in
set_option maxHeartbeats 1000000 in
theorem give_good {w : World} {base P Mb n : Nat} {budget : Int} {bs : List Blk} (h : Pl w base P Mb n budget bs) (hsz : SzOk bs) (hl : bs.length ≤ 2000) (i : Nat) (hi : i < bs.length) (hu : (bs.getD i b0).2 = true) :
    Calls Try.prog 42 #[.pointer (some ⟨P, 0, none⟩), .int .i64 i] w fun e w' => GiveOk w base P Mb n budget 0 (bs.set i ((bs.getD i b0).1, false)) e w' := by
  obtain ⟨zs, vB, M, h⟩ := h
  have hx : liveAt bs i = true := by
    unfold liveAt
    rw [Int.toNat_natCast, hu]
    simp [hi]
  have hlv := isLive_any h i
  rw [hx] at hlv
  have hbd := live_bd bs hsz
  have hse := hsz.at i hi
  have hlf : Hid (liveL (bs.set i ((bs.getD i b0).1, false)) = liveL bs - (bs.getD i b0).1) := by
    show liveL _ = _
    rw [liveL_set _ _ _ hi]
    unfold blv
    rw [hu]
    simp
  obtain ⟨g, cap, e, _⟩ := own_form3 h.own (by omega)
  subst e
  have c4 := h.pb.c4
  obtain ⟨q0, q1⟩ := zown_at h.own i (by rw [h.zl]; exact hi)
  have qf := h.own.frozenAt (i * 2 + 1)
  obtain ⟨f1, f2⟩ := h.flag i hi false
  have hw1 : (w.setCell ⟨g, i * 2 + 1, none⟩ (.bool false)).cell? ⟨g, i * 2, none⟩ = some (zs.getD i z0).1 := near (by omega) q0
  have Hby := hide (f1.zb i (by rw [List.length_set]; exact hi))
  have hi0 : (0 : Int) ≤ (i : Int) := Int.natCast_nonneg _
  have hi1 : (i : Int) < bs.length := by omega
  have hzl := h.zl
  have H1 := hide f1
  have HK := hide f2
  clear h f1 f2
  go_enter Try.func42, Try.ntmps42
  go_wp2_with (first
    | (go_at_call 48; refine hlv.mono ?_; rintro e w' ⟨rfl, rfl⟩)
    | fail)
  generalize hW1 : w'.setCell ⟨g, i * 2 + 1, none⟩ (.bool false) = W1 at *
  clear hW1 q0 q1 qf c4 hlv
  have hlen : (bs.set i ((bs.getD i b0).1, false)).length = bs.length := List.length_set
  have hbi : ((bs.set i ((bs.getD i b0).1, false)).getD i b0).1 = (bs.getD i b0).1 := by
    rw [List.getD_eq_getElem?_getD, List.getElem?_set_self hi]; rfl
  have hzi : ((zs.set i ((zs.getD i z0).1, false)).getD i z0).1 = (zs.getD i z0).1 := by
    rw [List.getD_eq_getElem?_getD, List.getElem?_set_self (by omega)]; rfl
  rw [hbi, hzi] at Hby
  have hsh := hide (shrink_any W1.drew H1.out.pb.drew (bs.getD i b0).1 (by omega) (by omega))
  have hs50 := hide (size_any (w := W1.drew) (g := g) (o := i * 2) hw1 Hby.out)
  generalize hS : (bs.getD i b0).1 = S at *
  have SA : Hid ((fun w' : World => w'.cell? ⟨P, 5, none⟩ = some (.map (some Mb))) W1.drew) := H1.out.pb.c5
  go_region_held3 (fun w' : World => w'.cell? ⟨P, 5, none⟩ = some (.map (some Mb))) (first | with_reducible exact SA.out | with_reducible exact SB.out | exact SA.out | fail) (first
    | (go_at_call 49; refine hsh.out.mono ?_; rintro e W2 ⟨rfl, hpb, hm⟩; have H2 := hide ((H1.out.ext (Ext.refl W1).drew).reP hm hpb); have HK2 := hide ((HK.out.trans (Kp.ext (Ext.refl W1).drew)).trans (Kp.mut hm H1.out.lo.1)); have SB : Hid ((fun w' : World => w'.cell? ⟨P, 5, none⟩ = some (.map (some Mb))) W2) := H2.out.pb.c5; clear hpb hm)
    | (go_at_call 50; refine hs50.out.mono ?_; rintro e w5 ⟨rfl, rfl⟩)
    | fail)
  clear SA hs50 hsh hw1 Hby
  have hb2 := H2.out.zb i (by rw [List.length_set]; exact hi)
  have hl2 := H2.out.own
  rw [List.length_set] at hl2
  have hw2 := (zown_at hl2 i (by rw [List.length_set]; omega)).1
  have hlk := mp_look (w := W2.drew) (H2.out.mp.row (grown_drew W2 none) (by simp)) (wf_size hse)
  have hs50 := hide (size_any (w := W2.drew) (g := g) (o := i * 2) hw2 hb2)
  rw [hbi] at hs50
  have SA : Hid ((fun w' : World => w'.cell? ⟨P, 5, none⟩ = some (.map (some Mb))) W2.drew) := H2.out.pb.c5
  clear hb2 hl2 hw2
  generalize hvS : M S = vS at *
  go_wp2
  go_region_held3 (fun w' : World => w'.cell? ⟨P, 5, none⟩ = some (.map (some Mb))) (first | with_reducible exact SA.out | with_reducible exact SB.out | exact SA.out | fail) (first
    | (go_at_call 50; refine hs50.out.mono ?_; rintro e w5 ⟨rfl, rfl⟩)
    | fail)
  have hfv : FV W2 vS (frees bs S) := by rw [← hvS]; exact H2.out.fr S
  have hlf2 : (frees bs S).length ≤ 2000 := Nat.le_trans (frees_len bs S) hl
  have hsr := hide (search_any (w := W2.drew) (FV.ints (FV.row hfv (grown_drew W2 none) (by simp))) hlf2 (sorted_at (frees_sorted bs S)) (i : Int))
  have HFv := hide hfv
  clear hs50 SA SB hlk hfv
  go_wp2_with (go_at_call 51; refine hsr.out.mono ?_; rintro e W3 ⟨⟨p, bb, rfl, hgo⟩, hx3⟩; have H3 := hide (H2.out.ext (((Ext.refl W2).drew).trans hx3)); have HK3 := hide (HK2.out.trans (Kp.ext (((Ext.refl W2).drew).trans hx3))); have HG := hide hgo; clear hgo hx3)
  have xa : Ext W3 W3.drew := (Ext.refl W3).drew
  have xb : Ext W3 (W3.alloc (.cells #[.int .i64 i] 2)).drew := ((Ext.refl W3).alloc _ _).drew
  have hb3 := H3.out.zb i (by rw [List.length_set]; exact hi)
  have hl3 := H3.out.own
  rw [List.length_set] at hl3
  have hw3 := (zown_at hl3 i (by rw [List.length_set]; omega)).1
  have hs50a := hide (size_any (w := W3.drew) (g := g) (o := i * 2) (xa.box hw3) (hb3.row (xa.grown none) (by simp)))
  have hs50b := hide (size_any (w := (W3.alloc (.cells #[.int .i64 i] 2)).drew) (g := g) (o := i * 2) (xb.box hw3) (hb3.row (xb.grown none) (by simp)))
  rw [hbi] at hs50a hs50b
  have hfv3 : FV W3 vS (frees bs S) := by rw [← hvS]; exact H3.out.fr S
  have hne : vS.ownBlock ≠ some W3.heap.size := fun e => by have := hfv3.lt _ e; omega
  have hins := hide (ins_any (w := (W3.alloc (.cells #[.int .i64 i] 2)).drew) (hfv3.row (xb.grown none) (by simp)) p HG.out.le (by omega) (i : Int) W3.heap.size 2 (new_block W3 _) hne)
  have HB := hide (H3.out.ext xb)
  have HKB := hide (HK3.out.trans (Kp.ext xb))
  have SA : Hid ((fun w' : World => w'.cell? ⟨P, 5, none⟩ = some (.map (some Mb))) W3.drew) := H3.out.pb.c5
  have SB : Hid ((fun w' : World => w'.cell? ⟨P, 5, none⟩ = some (.map (some Mb))) (W3.alloc (.cells #[.int .i64 i] 2)).drew) := HB.out.pb.c5
  have hwf := wf_size hse
  have Hfg : Hid (∀ x, (if x = S then insL (frees bs S) p i else frees bs x) = frees (bs.set i (S, false)) x) := fun x => by
    have hp := HG.out
    rw [← hS] at hp ⊢
    by_cases e : x = (bs.getD i b0).1
    · subst e
      rw [if_pos rfl, frees_given hi hu hp]
    · rw [if_neg e]
      exact (frees_other hi false (fun e1 => e e1.symm)).symm
  clear hb3 hl3 hw3 hfv3 hne xa xb
  go_region_held3 (fun w' : World => w'.cell? ⟨P, 5, none⟩ = some (.map (some Mb))) (first | with_reducible exact SA.out | with_reducible exact SB.out | with_reducible exact SC.out | with_reducible exact SD.out | exact SB.out | fail) (first
    | (go_at_call 52; refine hins.out.mono ?_; rintro e W5 ⟨v5, rfl, hfv5, hg5, hat5⟩; obtain ⟨W6, hput, hR, hK6, hc5⟩ := give_put HB.out hwf hvS hfv5 hg5 hat5; have HR := hide hR; have HK6 := hide hK6; have SC : Hid ((fun w' : World => w'.cell? ⟨P, 5, none⟩ = some (.map (some Mb))) W5) := hc5; have SD : Hid ((fun w' : World => w'.cell? ⟨P, 5, none⟩ = some (.map (some Mb))) W6) := hR.pb.c5; clear hR hK6 hc5 hfv5 hg5 hat5)
    | (go_at_call 50; first | (refine hs50a.out.mono ?_; rintro e w5 ⟨rfl, rfl⟩) | (refine hs50b.out.mono ?_; rintro e w5 ⟨rfl, rfl⟩))
    | fail)
  all_goals go_wp2
  all_goals go_ret
  all_goals exact ⟨rfl, by rw [hS]; exact HR.out.close Hfg.out (by rw [hlf.out]), HKB.out.trans HK6.out⟩
end Go.Proofs.Ytjjemnlknnnkbaa
