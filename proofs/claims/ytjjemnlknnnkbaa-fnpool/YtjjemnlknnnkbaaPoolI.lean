import Derived.Test.YtjjemnlknnnkbaaPoolG
import Derived.Test.YtjjemnlknnnkbaaPoolH
import Derived.Lib.SliceRun
namespace Go.Proofs.Ytjjemnlknnnkbaa
open Go.ChangeShapes Go.RowKit Go.Lib Go.ChangeMaps
set_option linter.unusedSimpArgs false
set_option linter.unusedVariables false
def ReOk (w : World) (base P Mb n : Nat) (sum budget : Int) (bs : List Blk) (zs : List IB) (vB : Value) (s : Int) (i : Nat) (rest : List Int) (F : Int → List Int) (e : Ending) (w' : World) : Prop :=
  e = .returned (.int .i64 i) ∧ ∃ M', PIv w' base P Mb n sum budget bs zs vB M' (fun x => if x = s then rest else F x) ∧ Kp base P w w'
theorem PIv.more {w : World} {base P Mb n n' : Nat} {sum budget : Int} {bs : List Blk} {zs : List IB} {vB : Value} {M : Int → Value} {F : Int → List Int} (h : PIv w base P Mb n sum budget bs zs vB M F) (hn : n ≤ n') : PIv w base P Mb n' sum budget bs zs vB M F := by
  obtain ⟨es, c, h1, h2, h3⟩ := h.mp
  exact ⟨h.pb, h.own, h.zl, h.zf, h.zb, ⟨es, c, h1, by omega, h3⟩, h.fr, h.inj, h.lo, h.lof, h.loy, h.pm, h.pB, h.pf, h.py⟩

set_option maxRecDepth 100000 in
set_option maxHeartbeats 1000000 in
theorem reuse_some {w : World} {base P Mb n : Nat} {sum budget : Int} {bs : List Blk} {zs : List IB} {vB : Value} {M : Int → Value} {F : Int → List Int} (h : PIv w base P Mb n sum budget bs zs vB M F) (s : Int) (hs : 16 ≤ s ∧ s ≤ 65536) (i : Nat) (rest : List Int) (hF : F s = (i : Int) :: rest) (hi : i < bs.length) (hbs : (bs.getD i b0).1 = s) :
    Calls Try.prog 47 #[.pointer (some ⟨P, 0, none⟩), .int .i64 s] w fun e w' => ReOk w base P Mb (n + 1) sum budget bs zs vB s i rest F e w' := by
  have hwf := wf_size hs
  have hlk := mp_look h.mp hwf
  rcases h.fr s with ⟨h1, h2⟩ | ⟨b, off, cap, h2, hfl⟩
  · rw [hF] at h1; cases h1
  have hcap := hfl.le
  have hcm := hfl.cm
  unfold maxLen at hcm
  rw [hF, List.length_cons] at hcap
  rw [h2, hF, List.length_cons] at hlk
  cases rest with
  | nil =>
    obtain ⟨es', clock', hrun, hM⟩ := mp_del h.mp hwf
    obtain ⟨es0, c0, hmb⟩ := h.mBlk
    have hg1 : w.grownBy (setBlock w Mb (.map es' clock')) (some Mb) := setBlock_grown hmb
    have H1 := (h.reF s (grown_refl _ _) (v := nilI) (L := []) (Or.inl ⟨rfl, rfl⟩) (fun k e => by simp [nilI, Value.ownBlock] at e) hg1 hM).more (Nat.le_succ n)
    generalize setBlock w Mb (.map es' clock') = W1 at *
    have hgx : Kp base P w W1 := Kp.of hg1 (fun k e => by
      cases e
      obtain ⟨es, c, hm⟩ := h.mBlk
      exact ⟨h.lo.2.1, Or.inr fun cur e1 => by rw [hm] at e1; cases e1⟩)
    have c4 := H1.pb.c4
    have c5 := h.pb.c5
    obtain ⟨g, cap', e, hg0⟩ := own_form3 H1.own (by omega)
    subst e
    obtain ⟨q0, q1⟩ := zown_at H1.own i (by rw [H1.zl]; exact hi)
    obtain ⟨y, m, cur, hy1, hy2, hy3, hy4⟩ := H1.zb i hi
    rw [hy1] at q0
    have hyP : y ≠ P := fun e1 => H1.py i hi (by rw [hy1, e1]; rfl)
    have hyl : base ≤ y := H1.loy i hi y (by rw [hy1]; rfl)
    have hm0 : 0 < m := by omega
    have hcx : ∀ j, j < m → (W1.cell? ⟨y, 0 + j, none⟩).isSome = true := fun j hj => by
      rw [cell_of_row W1 y (0 + j) cur 5 (0, 0) hy3, Array.getElem?_eq_getElem (by omega)]; rfl
    have hclr : ∀ ty, (Builtin.clear_ #[24] ty #[.slice (some ⟨y, 0, none⟩) m m]).run Try.prog W1.drew = .ok (.tuple #[]) (W1.drew.setCells y 0 (List.replicate m (.int .u8 0))) := fun ty =>
      run_clear_slice W1.drew 24 5 ty (.int .u8 0) Try.underlying24 (fun w => Try.zeroValue5 w) rfl rfl y 0 m m hm0 hcx (fun j hj => frozen_of_row W1.drew y (0 + j) cur 5 hy3)
    obtain ⟨cur', g1, g2⟩ := setCells_heap y (List.replicate m (.int .u8 0)) 0 W1.drew cur 5 hy3
    have hg2 := grown_trans (grown_drew W1 (some y)) (setCells_grown y (List.replicate m (.int .u8 0)) 0 W1.drew)
    have hyb : b ≠ y := fun e1 => by
      subst e1
      obtain ⟨c2, k1, _⟩ := hfl.cur
      have hmb : Mb ≠ b := fun e2 => by
        subst e2
        obtain ⟨es, c, k2⟩ := h.mBlk
        rw [k1] at k2; cases k2
      have := (hg1.block b hfl.lt (fun e2 => hmb (Option.some.inj e2).symm)).symm.trans hy3
      rw [k1] at this
      cases this
    have hcb : w.cell? ⟨b, off, none⟩ = some (.int .i64 i) := by
      have := hfl.row 0 (by rw [hF]; simp)
      rw [hF] at this
      simpa using this
    have hcb1 : W1.cell? ⟨b, off, none⟩ = some (.int .i64 i) := by
      rw [World.cell?_of_block (w := w) (a := ⟨b, off, none⟩)]
      · exact hcb
      · refine hg1.block b hfl.lt (fun e2 => ?_)
        obtain ⟨c2, k1, _⟩ := hfl.cur
        obtain ⟨es, c, k2⟩ := h.mBlk
        rw [← Option.some.inj e2, k1] at k2; cases k2
    have hcb2 : (W1.drew.setCells y 0 (List.replicate m (.int .u8 0))).cell? ⟨b, off, none⟩ = some (.int .i64 i) := by
      rw [World.cell?_setCells_out y _ _ _ ⟨b, off, none⟩ (fun e1 _ => absurd e1 hyb)]
      exact hcb1
    have Hres : Hid (ReOk w base P Mb (n + 1) sum budget bs zs (.slice (some ⟨g, 0, none⟩) bs.length cap') s i [] F (.returned (.int .i64 i)) (W1.drew.setCells y 0 (List.replicate m (.int .u8 0)))) :=
      ⟨rfl, _, H1.reY hy3 hyP hg2 g1 g2, hgx.trans (Kp.of hg2 (fun k e1 => by cases e1; exact ⟨hyl, Or.inr fun cur e2 => by rw [hy3] at e2; cases e2⟩))⟩
    have hbl := hide H1.own
    have hlb : (i : Int) < bs.length := by omega
    have hi0 : (0 : Int) ≤ (i : Int) := Int.natCast_nonneg _
    clear hcx hfl hg1 hg2 hgx g1 g2 h H1 hM hy3
    generalize W1.drew.setCells y 0 (List.replicate m (.int .u8 0)) = W2 at *
    simp only [List.length_nil] at *
    go_enter Try.func47, Try.ntmps47
    go_wp2
    go_region
    all_goals go_wp2
    all_goals go_ret
    all_goals exact Hres.out
  | cons r rest =>
    have hfl1 : FLat w b (off + 1) (cap - 1) (r :: rest) := by
      obtain ⟨cur, k1, k2⟩ := hfl.cur
      refine ⟨⟨cur, k1, by simp at hcap; omega⟩, fun j hj => ?_, by simp at hcap ⊢; omega, by have := hfl.cm; omega⟩
      have := hfl.row (j + 1) (by rw [hF]; simp at hj ⊢; omega)
      rw [hF, List.getD_cons_succ] at this
      rw [show off + 1 + j = off + (j + 1) by omega]
      exact this
    obtain ⟨es', clock', hrun, hM⟩ := mp_put (w := w.drew) (h.mp.row (grown_drew w none) (by simp)) hwf (.slice (some ⟨b, off + 1, none⟩) (rest.length + 1) (cap - 1))
    obtain ⟨es0, c0, hmb⟩ := h.mBlk
    have hg0' : w.drew.grownBy (setBlock w.drew Mb (.map es' clock')) (some Mb) := setBlock_grown (w := w.drew) hmb
    have hg1 := grown_trans (grown_drew w (some Mb)) hg0'
    have H1 := h.reF s (grown_drew w _) (v := .slice (some ⟨b, off + 1, none⟩) (rest.length + 1) (cap - 1)) (L := r :: rest) (FV.row (Or.inr ⟨b, off + 1, cap - 1, rfl, hfl1⟩ : FV w _ _) (grown_drew w none) (by simp)) (fun k e => Or.inl (by rw [h2]; exact e)) hg0' hM
    generalize setBlock w.drew Mb (.map es' clock') = W1 at *
    have hgx : Kp base P w W1 := Kp.of hg1 (fun k e => by
      cases e
      obtain ⟨es, c, hm⟩ := h.mBlk
      exact ⟨h.lo.2.1, Or.inr fun cur e1 => by rw [hm] at e1; cases e1⟩)
    have c4 := H1.pb.c4
    have c5 := h.pb.c5
    obtain ⟨g, cap', e, hg0⟩ := own_form3 H1.own (by omega)
    subst e
    obtain ⟨q0, q1⟩ := zown_at H1.own i (by rw [H1.zl]; exact hi)
    obtain ⟨y, m, cur, hy1, hy2, hy3, hy4⟩ := H1.zb i hi
    rw [hy1] at q0
    have hyP : y ≠ P := fun e1 => H1.py i hi (by rw [hy1, e1]; rfl)
    have hyl : base ≤ y := H1.loy i hi y (by rw [hy1]; rfl)
    have hm0 : 0 < m := by omega
    have hcx : ∀ j, j < m → (W1.cell? ⟨y, 0 + j, none⟩).isSome = true := fun j hj => by
      rw [cell_of_row W1 y (0 + j) cur 5 (0, 0) hy3, Array.getElem?_eq_getElem (by omega)]; rfl
    have hclr : ∀ ty, (Builtin.clear_ #[24] ty #[.slice (some ⟨y, 0, none⟩) m m]).run Try.prog W1.drew = .ok (.tuple #[]) (W1.drew.setCells y 0 (List.replicate m (.int .u8 0))) := fun ty =>
      run_clear_slice W1.drew 24 5 ty (.int .u8 0) Try.underlying24 (fun w => Try.zeroValue5 w) rfl rfl y 0 m m hm0 hcx (fun j hj => frozen_of_row W1.drew y (0 + j) cur 5 hy3)
    obtain ⟨cur', g1, g2⟩ := setCells_heap y (List.replicate m (.int .u8 0)) 0 W1.drew cur 5 hy3
    have hg2 := grown_trans (grown_drew W1 (some y)) (setCells_grown y (List.replicate m (.int .u8 0)) 0 W1.drew)
    have hyb : b ≠ y := fun e1 => by
      subst e1
      obtain ⟨c2, k1, _⟩ := hfl.cur
      have hmb : Mb ≠ b := fun e2 => by
        subst e2
        obtain ⟨es, c, k2⟩ := h.mBlk
        rw [k1] at k2; cases k2
      have := (hg1.block b hfl.lt (fun e2 => hmb (Option.some.inj e2).symm)).symm.trans hy3
      rw [k1] at this
      cases this
    have hcb : w.cell? ⟨b, off, none⟩ = some (.int .i64 i) := by
      have := hfl.row 0 (by rw [hF]; simp)
      rw [hF] at this
      simpa using this
    have hcb1 : W1.cell? ⟨b, off, none⟩ = some (.int .i64 i) := by
      rw [World.cell?_of_block (w := w) (a := ⟨b, off, none⟩)]
      · exact hcb
      · refine hg1.block b hfl.lt (fun e2 => ?_)
        obtain ⟨c2, k1, _⟩ := hfl.cur
        obtain ⟨es, c, k2⟩ := h.mBlk
        rw [← Option.some.inj e2, k1] at k2; cases k2
    have hcb2 : (W1.drew.setCells y 0 (List.replicate m (.int .u8 0))).cell? ⟨b, off, none⟩ = some (.int .i64 i) := by
      rw [World.cell?_setCells_out y _ _ _ ⟨b, off, none⟩ (fun e1 _ => absurd e1 hyb)]
      exact hcb1
    have Hres : Hid (ReOk w base P Mb (n + 1) sum budget bs zs (.slice (some ⟨g, 0, none⟩) bs.length cap') s i (r :: rest) F (.returned (.int .i64 i)) (W1.drew.setCells y 0 (List.replicate m (.int .u8 0)))) :=
      ⟨rfl, _, H1.reY hy3 hyP hg2 g1 g2, hgx.trans (Kp.of hg2 (fun k e1 => by cases e1; exact ⟨hyl, Or.inr fun cur e2 => by rw [hy3] at e2; cases e2⟩))⟩
    have hbl := hide H1.own
    have hlb : (i : Int) < bs.length := by omega
    have hi0 : (0 : Int) ≤ (i : Int) := Int.natCast_nonneg _
    clear hg0' hcx hfl hg1 hg2 hgx g1 g2 h H1 hM hy3
    generalize W1.drew.setCells y 0 (List.replicate m (.int .u8 0)) = W2 at *
    have hc1 : ¬ (cap = 1) := by simp at hcap; omega
    clear hfl1
    simp only [List.length_cons] at *
    go_enter Try.func47, Try.ntmps47
    go_wp2
    go_region
    all_goals go_wp2
    all_goals go_region
    all_goals go_wp2
    all_goals go_ret
    all_goals exact Hres.out
end Go.Proofs.Ytjjemnlknnnkbaa
