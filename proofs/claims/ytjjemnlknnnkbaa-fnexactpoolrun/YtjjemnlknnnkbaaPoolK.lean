import Derived.Test.YtjjemnlknnnkbaaPoolJ
namespace Go.Proofs.Ytjjemnlknnnkbaa
open Go.ChangeShapes Go.RowKit Go.Lib Go.ChangeMaps
set_option linter.unusedSimpArgs false
set_option linter.unusedVariables false
/-- A block's flag is set. -/
theorem PIv.flag {w : World} {base P Mb n g cap : Nat} {sum budget : Int} {bs : List Blk} {zs : List IB} {M : Int → Value} {F : Int → List Int} (h : PIv w base P Mb n sum budget bs zs (.slice (some ⟨g, 0, none⟩) bs.length cap) M F) (i : Nat) (hi : i < bs.length) (u : Bool) :
    PIv (w.setCell ⟨g, i * 2 + 1, none⟩ (.bool u)) base P Mb n sum budget (bs.set i ((bs.getD i b0).1, u)) (zs.set i ((zs.getD i z0).1, u)) (.slice (some ⟨g, 0, none⟩) bs.length cap) M F ∧ Kp base P w (w.setCell ⟨g, i * 2 + 1, none⟩ (.bool u)) := by
  have hst := h.own.stored (i * 2 + 1) (.bool u)
  rw [zcells_set zs i u (by rw [h.zl]; exact hi)] at hst
  have gs : ∀ {α : Type} (l : List α) (d x : α) (j : Nat), i < l.length → (l.set i x).getD j d = if j = i then x else l.getD j d := fun l d x j hl => by
    by_cases e : j = i
    · subst e
      rw [if_pos rfl, List.getD_eq_getElem?_getD, List.getElem?_set_self hl]; rfl
    · rw [if_neg e, List.getD_eq_getElem?_getD, List.getElem?_set_ne (fun e1 => e e1.symm), ← List.getD_eq_getElem?_getD]
  have hz : i < zs.length := by rw [h.zl]; exact hi
  refine ⟨h.reB hst.2 (by rw [List.length_set]; exact hst.1) (by rw [List.length_set, List.length_set, h.zl]) (fun j hj => ?_) (fun j hj => ?_), Kp.of hst.2 (fun k e => ?_)⟩
  · rw [List.length_set] at hj
    rw [gs _ _ _ _ hz, gs _ _ _ _ hi]
    split
    · rfl
    · exact h.zf j hj
  · rw [List.length_set] at hj
    refine ⟨hj, ?_, ?_⟩
    · rw [gs _ _ _ _ hz]
      split
      · rename_i e; rw [e]
      · rfl
    · rw [gs _ _ _ _ hi]
      split
      · rename_i e; rw [e]
      · rfl
  · obtain ⟨h1, cur, h2⟩ := h.bBlk e
    exact ⟨h1, Or.inr fun c e1 => by rw [h2] at e1; cases e1⟩
theorem PIv.close {w : World} {base P Mb n : Nat} {sum budget : Int} {bs : List Blk} {zs : List IB} {vB : Value} {M : Int → Value} {F : Int → List Int} (h : PIv w base P Mb n sum budget bs zs vB M F) (hF : ∀ x, F x = frees bs x) (hs : sum = liveL bs) : Pl w base P Mb n budget bs := by
  have : F = frees bs := funext hF
  subst this
  subst hs
  exact ⟨_, _, _, h⟩

set_option maxRecDepth 100000 in
set_option maxHeartbeats 1000000 in
theorem take_old {w : World} {base P Mb n : Nat} {budget : Int} {bs : List Blk} (h : Pl w base P Mb n budget bs) (hsz : SzOk bs) (hl : bs.length ≤ 2000) (x : Int) (hr : 16 ≤ roundL x ∧ roundL x ≤ 65536) (hb : liveL bs + roundL x ≤ budget) (i : Nat) (rest : List Int) (hF : frees bs (roundL x) = (i : Int) :: rest) (hi : i < bs.length) (hfi : freeB bs (roundL x) i = true) :
    Calls Try.prog 41 #[.pointer (some ⟨P, 0, none⟩), .int .i64 x] w fun e w' => TakeOk w base P Mb n budget bs (bs.set i (roundL x, true), 0, i) e w' := by
  obtain ⟨zs, vB, M, h⟩ := h
  have hlv := live_bd bs hsz
  have H := hide h
  have hbi : (bs.getD i b0).1 = roundL x ∧ (bs.getD i b0).2 = false := by
    unfold freeB at hfi; simp at hfi; exact ⟨hfi.2, hfi.1⟩
  have hlive : Hid (liveL (bs.set i (roundL x, true)) = liveL bs + roundL x) := by
    show liveL _ = _
    rw [liveL_set _ _ _ hi]
    unfold blv
    rw [hbi.2]
    simp
  have hfr : Hid (∀ y, (if y = roundL x then rest else frees bs y) = frees (bs.set i (roundL x, true)) y) := fun y => by
    by_cases e : y = roundL x
    · subst e
      rw [if_pos rfl, frees_taken hF hi rfl]
    · rw [if_neg e]
      have := frees_other hi true (s := y) (by rw [hbi.1]; exact fun e1 => e e1.symm)
      rw [hbi.1] at this
      exact this.symm
  have hset : Hid (bs.set i ((bs.getD i b0).1, true) = bs.set i (roundL x, true)) := by show bs.set i _ = _; rw [hbi.1]
  have hg := grow_yes w h.pb (roundL x) (by omega) (by omega) hb
  obtain ⟨g, cap, e, _⟩ := own_form3 h.own (by omega)
  subst e
  clear h
  have hbi1 := hbi.1
  have hnot : ¬ roundL x < 0 := by omega
  generalize hR : roundL x = R at *
  have hi0 : (0 : Int) ≤ (i : Int) := Int.natCast_nonneg _
  have hi1 : (i : Int) < bs.length := by omega
  have hne : ¬ ((i : Int) = -1) := by omega
  have Hh := hide (show frees bs R = (i : Int) :: rest from hF)
  have Hb := hide hbi1
  clear hF hbi hbi1 hfi
  go_enter Try.func41, Try.ntmps41
  go_wp2_with (first
    | (go_at_call 8; refine (iRound_any x _).mono ?_; rintro e w' ⟨rfl, rfl⟩; rw [hR])
    | (go_at_call 46; refine hg.mono ?_; rintro e w1 ⟨rfl, hpb, hm⟩; have HP := hide (H.out.reP hm hpb); have HM := hide (Kp.mut hm H.out.lo.1); clear hpb hm)
    | (go_at_call 47; refine (reuse_some HP.out R hr i rest Hh.out hi Hb.out).mono ?_; rintro e w2 ⟨rfl, M2, h2, k2⟩; have c4 := h2.pb.c4; have q1 := (zown_at h2.own i (by rw [h2.zl]; exact hi)).2; have qf := h2.own.frozenAt (i * 2 + 1); have HR := hide h2; have HK := hide (HM.out.trans k2); clear h2 k2))
  refine bodyPost_ret (results_tmp2 rfl _ _ _) rfl ?_
  obtain ⟨f1, f2⟩ := HR.out.flag i hi true
  rw [hset.out] at f1
  exact ⟨rfl, f1.close hfr.out (by rw [hlive.out]), HK.out.trans f2⟩
end Go.Proofs.Ytjjemnlknnnkbaa
