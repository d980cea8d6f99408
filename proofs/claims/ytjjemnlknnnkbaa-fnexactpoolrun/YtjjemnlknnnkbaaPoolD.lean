import Derived.Test.YtjjemnlknnnkbaaPoolC
namespace Go.Proofs.Ytjjemnlknnnkbaa
open Go.ChangeShapes Go.RowKit Go.MuLone
set_option linter.unusedSimpArgs false
set_option linter.unusedVariables false

def QRel (w : World) (budget : Int) (ops : List P3) (o b i : Value) (wr : World) : Prop :=
  ∃ (k : Nat) (s : Option Addr) (c : Nat) (s' : Option Addr) (c' : Nat), i = .int .i64 k ∧ k ≤ ops.length ∧ o = .slice s k c ∧ b = .slice s' (runP budget ops k).2.length c' ∧ QS w wr (runP budget ops k).2 (runP budget ops k).1 b o
/-- The answer's box at a. -/
structure TA (w V : World) (a : Nat) (bs : List Blk) (ts : List P3) (vB vO : Value) (code block : Int) : Prop where
  q : QS w V bs ts vB vO
  c0 : V.cell? ⟨a, 0, none⟩ = some (.int .i64 code)
  c1 : V.cell? ⟨a, 1, none⟩ = some (.int .i64 block)
  c2 : V.cell? ⟨a, 2, none⟩ = some (.int .i64 0)
  fz : ∀ o, V.frozen? ⟨a, o, none⟩ = false
  nB : vB.ownBlock ≠ some a
  nO : vO.ownBlock ≠ some a
  ha : w.heap.size ≤ a
theorem TA.fresh {w wr : World} {bs : List Blk} {ts : List P3} {vB vO : Value} (h : QS w wr bs ts vB vO) (code block : Int) (X : Array Value) : TA w ((wr.alloc (.cells #[.int .i64 code, .int .i64 block, .int .i64 0] 32)).alloc (.cells X 34)) wr.heap.size bs ts vB vO code block := by
  have z1 : Ext wr (wr.alloc (.cells #[.int .i64 code, .int .i64 block, .int .i64 0] 32)) := (Ext.refl wr).alloc _ _
  have z2 : Ext (wr.alloc (.cells #[.int .i64 code, .int .i64 block, .int .i64 0] 32)) ((wr.alloc (.cells #[.int .i64 code, .int .i64 block, .int .i64 0] 32)).alloc (.cells X 34)) := (Ext.refl _).alloc _ _
  have n1 := fun j => new_cell wr #[.int .i64 code, .int .i64 block, .int .i64 0] 32 wr.heap.size rfl j
  exact ⟨h.ext (z1.trans z2), z2.box (n1 0), z2.box (n1 1), z2.box (n1 2), fun o => (z1.trans z2).unfrozen (Nat.le_refl _) o, fun e => by have := (h.ownB.lt _ e).2; omega, fun e => by have := (h.ownO.lt _ e).2; omega, Below.size h.bl⟩
theorem TA.grow {w V W : World} {a : Nat} {bs bs' : List Blk} {ts : List P3} {vB vB' vO : Value} {code block : Int} (h : TA w V a bs ts vB vO code block) (hg : V.grownBy W vB.ownBlock) (hB : W.ownsRow w.heap.size 61 2 vB' bs'.length (bcells bs')) (hat : vB'.ownBlock = vB.ownBlock ∨ ∃ k, vB'.ownBlock = some k ∧ V.heap.size ≤ k) : TA w W a bs' ts vB' vO code block := by
  have hlt := cell_lt h.c0
  have hk : W.heap[a]? = V.heap[a]? := hg.block a hlt (fun e => h.nB e.symm)
  refine ⟨h.q.grow hg hB, (World.cell?_of_block hk).trans h.c0, (World.cell?_of_block hk).trans h.c1, (World.cell?_of_block hk).trans h.c2, fun o => (World.frozen?_of_block hk).trans (h.fz o), ?_, h.nO, h.ha⟩
  rcases hat with q | ⟨k, q, hq⟩
  · rw [q]; exact h.nB
  · rw [q]; simp; omega
theorem QS.setA {w V : World} {a o : Nat} {bs : List Blk} {ts : List P3} {vB vO : Value} (h : QS w V bs ts vB vO) (nB : vB.ownBlock ≠ some a) (nO : vO.ownBlock ≠ some a) (ha : w.heap.size ≤ a) (u : Value) : QS w (V.setCell ⟨a, o, none⟩ u) bs ts vB vO :=
  ⟨ownsRow_setCell_other h.ownB nB _, ownsRow_setCell_other h.ownO nO _, h.bl.setCell (p := ⟨a, o, none⟩) ha _⟩
theorem TA.set0 {w V : World} {a : Nat} {bs : List Blk} {ts : List P3} {vB vO : Value} {code block : Int} (h : TA w V a bs ts vB vO code block) (x : Int) : TA w (V.setCell ⟨a, 0, none⟩ (.int .i64 x)) a bs ts vB vO x block :=
  ⟨h.q.setA h.nB h.nO h.ha _, World.cell?_setCell_same _ _ _ h.c0, near (by omega) h.c1, near (by omega) h.c2, fun o => (World.frozen?_setCell _ _ _ _).trans (h.fz o), h.nB, h.nO, h.ha⟩
theorem TA.set1 {w V : World} {a : Nat} {bs : List Blk} {ts : List P3} {vB vO : Value} {code block : Int} (h : TA w V a bs ts vB vO code block) (x : Int) : TA w (V.setCell ⟨a, 1, none⟩ (.int .i64 x)) a bs ts vB vO code x :=
  ⟨h.q.setA h.nB h.nO h.ha _, near (by omega) h.c0, World.cell?_setCell_same _ _ _ h.c1, near (by omega) h.c2, fun o => (World.frozen?_setCell _ _ _ _).trans (h.fz o), h.nB, h.nO, h.ha⟩
theorem three_setP (W : World) (p : Addr) (u : Value) (t : P3) : ∀ j x, (p3v t)[j]? = some x → ((W.setCell p u).alloc (.cells #[.int .i64 t.1, .int .i64 t.2.1, .int .i64 t.2.2] 32)).cell? ((⟨W.heap.size, 0, none⟩ : Addr).add j) = some x := by
  have e : (W.setCell p u).heap.size = W.heap.size := by simp [World.setCell]
  rw [← e]; exact three_newP _ _

set_option maxRecDepth 100000 in
set_option maxHeartbeats 2000000 in
theorem sPR_good {w : World} {v : Value} {ops : List P3} (h : PV w v ops) (budget : Int) (hl : ops.length ≤ 2000) :
    Calls Try.prog 10 #[.int .i64 budget, v] w fun e w' => POk w (runP budget ops ops.length).1 e w' := by
  obtain ⟨i32, hi32, hy0, hy1, hy2⟩ := info_parts info32
  have HS := hide h
  obtain ⟨sa, cap, rfl, hr⟩ := h
  clear hr
  have d1 : decide (2000 < (ops.length : Int)) = false := decide_eq_false (by omega)
  have S0 : Hid (QS w ((w.alloc (.cells #[] 32)).alloc (.cells #[] 61)) [] [] (.slice (some ⟨w.heap.size + 1, 0, none⟩) 0 0) (.slice (some ⟨w.heap.size, 0, none⟩) 0 0)) := by
    have h1 := World.ownsRow_made (base := w.heap.size) (e := 32) (size := 3) w #[] 0 (Nat.le_refl _) (by unfold maxLen; omega) rfl
    have h2 := World.ownsRow_made (base := w.heap.size) (e := 61) (size := 2) (w.alloc (.cells #[] 32)) #[] 0 (by simp) (by unfold maxLen; omega) rfl
    have e : (w.alloc (.cells #[] 32)).heap.size = w.heap.size + 1 := by simp
    rw [e] at h2
    exact ⟨h2, h1.alloc _, (((Ext.refl w).alloc _ _).alloc _ _).bl⟩
  go_enter Try.func10, Try.ntmps10
  go_wp2_with fail
  generalize hW0 : (w.alloc (.cells #[] 32)).alloc (.cells #[] 61) = W0 at S0 ⊢
  clear hW0
  go_loopw [5, 6, 7] (fun o b i wr => QRel w budget ops o b i wr) (fun o b i _ => ops.length - (intOf i).toNat)
  case atStart => exact ⟨0, _, _, _, _, rfl, by omega, rfl, rfl, S0.out⟩
  case round =>
    obtain ⟨k, s, c, s', c', rfl, hk, rfl, rfl, hW⟩ := hrel
    have HW := hide hW
    have hok := run_ok budget ops k
    clear hW
    by_cases hlt : k < ops.length
    · obtain ⟨T, hT⟩ : ∃ T, runP budget ops k = T := ⟨_, rfl⟩
      have hsucc := hide (runP_succ budget ops k)
      have hlen := runP_len budget ops k
      rw [hT] at HW hok hsucc hlen ⊢
      obtain ⟨ts, bs⟩ := T
      simp only at HW hok hsucc hlen ⊢
      subst hlen
      have HSz := hide hok.1
      have hbl := hok.2
      clear hT hok
      obtain ⟨sa0, cap0, e0, hr⟩ := HS.out
      injection e0 with e1 _ e2
      subst e1 e2
      rcases hr with h0 | ⟨bp, off, rfl, hrow⟩
      · rw [h0] at hlt; simp at hlt
      have q0 := Bel.box HW.out.bl (hrow ts.length hlt).1
      have q1 := Bel.box HW.out.bl (hrow ts.length hlt).2.1
      have q2 := Bel.box HW.out.bl (hrow ts.length hlt).2.2
      clear hrow
      have hk0 : (0 : Int) ≤ (ts.length : Int) := Int.natCast_nonneg _
      have hk1 : (ts.length : Int) < (ops.length : Int) := by omega
      generalize hop : ops.getD ts.length p0 = op at q0 q1 q2 hsucc
      clear hop
      obtain ⟨kind, size, block⟩ := op
      simp only at q0 q1 q2
      have hM63 : ts.length + 1 ≤ maxLen := by unfold maxLen; omega
      have hM8 : (ts.length + 1) * 24 ≤ 140737488355328 := by omega
      have z1 : Ext wr (wr.alloc (.cells #[.int .i64 0, .int .i64 (-1), .int .i64 0] 32)) := (Ext.refl wr).alloc _ _
      have z2 : Ext (wr.alloc (.cells #[.int .i64 0, .int .i64 (-1), .int .i64 0] 32)) ((wr.alloc (.cells #[.int .i64 0, .int .i64 (-1), .int .i64 0] 32)).alloc (.cells #[.int .i64 kind, .int .i64 size, .int .i64 block] 34)) := (Ext.refl _).alloc _ _
      have q0' := z1.box q0
      have q1' := z1.box q1
      have q2' := z1.box q2
      have n2 := fun j => new_cell (wr.alloc (.cells #[.int .i64 0, .int .i64 (-1), .int .i64 0] 32)) #[.int .i64 kind, .int .i64 size, .int .i64 block] 34 (wr.heap.size + 1) (by simp) j
      have x0 : ((wr.alloc (.cells #[.int .i64 0, .int .i64 (-1), .int .i64 0] 32)).alloc (.cells #[.int .i64 kind, .int .i64 size, .int .i64 block] 34)).cell? ⟨wr.heap.size + 1, 0, none⟩ = some (.int .i64 kind) := n2 0
      have x1 : ((wr.alloc (.cells #[.int .i64 0, .int .i64 (-1), .int .i64 0] 32)).alloc (.cells #[.int .i64 kind, .int .i64 size, .int .i64 block] 34)).cell? ⟨wr.heap.size + 1, 1, none⟩ = some (.int .i64 size) := n2 1
      have x2 : ((wr.alloc (.cells #[.int .i64 0, .int .i64 (-1), .int .i64 0] 32)).alloc (.cells #[.int .i64 kind, .int .i64 size, .int .i64 block] 34)).cell? ⟨wr.heap.size + 1, 2, none⟩ = some (.int .i64 block) := n2 2
      have sz2 : Hid (((wr.alloc (.cells #[.int .i64 0, .int .i64 (-1), .int .i64 0] 32)).alloc (.cells #[.int .i64 kind, .int .i64 size, .int .i64 block] 34)).heap.size = wr.heap.size + 2) := by show ((wr.alloc (.cells #[.int .i64 0, .int .i64 (-1), .int .i64 0] 32)).alloc (.cells #[.int .i64 kind, .int .i64 size, .int .i64 block] 34)).heap.size = _; simp
      clear n2 z1 z2 q0 q1 q2
      by_cases hk1' : kind = 1
      · subst hk1'
        rcases round_bd size with hr | hr
        · have HST : Hid (stepP budget bs (1, size, block) = (bs, 16, -1)) := by
            show stepP budget bs (1, size, block) = _
            unfold stepP
            rw [if_pos rfl, if_pos (by simp only; rw [hr]; decide)]
          have HT := hide (TA.fresh HW.out 16 (-1) #[.int .i64 1, .int .i64 size, .int .i64 block])
          have HSz5 := hide HSz.out
          have hbl5 := hbl
          clear HW HSz
          go_wp2_with fail
          refine (sRound_any size _).mono ?_
          rintro e W7 ⟨rfl, rfl⟩
          rw [hr]
          go_wp2_with fail
          generalize hVV : ((wr.alloc (.cells #[.int .i64 16, .int .i64 (-1), .int .i64 0] 32)).alloc (.cells #[.int .i64 1, .int .i64 size, .int .i64 block] 34)) = VV at HT ⊢
          clear hVV
          have hsz5 := hide (l3Live_any HT.out.q.ownB HSz5.out (by have := hbl5; omega))
          have c0 := HT.out.c0
          have c1 := HT.out.c1
          have c2 := HT.out.c2
          have cf := HT.out.fz
          generalize wr.heap.size = a at HT c0 c1 c2 cf ⊢
          refine hsz5.out.mono ?_
          rintro e V5 ⟨rfl, rfl⟩
          clear hsz5
          generalize hlv : liveL bs = LV
          have Hlv := hide hlv
          clear hlv
          have HT5 := hide (HT.out.q.setA (o := 2) HT.out.nB HT.out.nO HT.out.ha (.int .i64 LV))
          clear HT
          go_wp2_with (at_builtin; (refine wpList_append_own_at _ rfl _ _ 28 rfl w.heap.size 32 i32 (.agg #[.int .i64 0, .int .i64 0, .int .i64 0]) 3 24 Try.underlying28 hi32 hy0 hy1 hy2 rfl (by decide) _ _ _ rfl (HT5.out.ownO.alloc _) ⟨V5.heap.size, 0, none⟩ 1 1 (p3v (16, -1, LV)) rfl rfl (three_setP _ _ _ (16, -1, LV)) (p3v_one _) hM63 hM8 (HT5.out.szP _ _) ?_); intro v3 w3 hown3 hgrow3 hnil3 hat3; obtain ⟨s3, c3, rfl⟩ := own_form2 hown3; have HSt := hide (HT5.out.push (16, -1, LV) hgrow3 hown3); clear hown3 hgrow3 hnil3 hat3)
          go_roundw
          · exact ⟨ts.length + 1, _, _, _, _, by go_num, by omega, rfl, by rw [hsucc.out, HST.out]; skip, by rw [hsucc.out, HST.out]; unfold ansP; rw [Hlv.out]; exact HSt.out⟩
          · simp [intOf]; omega
        · have HT0 := hide (TA.fresh HW.out 0 (-1) #[.int .i64 1, .int .i64 size, .int .i64 block])
          have Htk := hide (take_ok HSz.out budget _ hr)
          have HST : Hid (stepP budget bs (1, size, block) = ((takeL bs budget (roundL size)).1, (if (takeL bs budget (roundL size)).2 < 0 then 17 else 0), (takeL bs budget (roundL size)).2)) := by
            show stepP budget bs (1, size, block) = _
            unfold stepP
            rw [if_pos rfl, if_neg (by simp only; omega)]
          have Hlt := hide (l3Take_any HT0.out.q.ownB HSz.out (by omega) (Below.size HT0.out.q.bl) budget _ hr)
          clear HW HSz
          go_wp2_with fail
          refine (sRound_any size _).mono ?_
          rintro e W7 ⟨rfl, rfl⟩
          have hrn : ¬ roundL size < 0 := by omega
          generalize hrr : roundL size = r at hr hrn Htk HST Hlt ⊢
          clear hrr
          go_wp2_with fail
          refine Hlt.out.mono ?_
          rintro e w3 ⟨v5, rfl, hB5, hg5, hat5⟩
          have HT1 := hide (HT0.out.grow hg5 hB5 hat5)
          obtain ⟨s5, c5, rfl⟩ := own_form2 hB5
          clear hB5 hg5 hat5 HT0 Hlt
          generalize takeL bs budget r = xx at HT1 Htk HST ⊢
          obtain ⟨bs5, bk⟩ := xx
          simp only at HT1 Htk HST ⊢
          have HSz5 := hide Htk.out.1
          have hbl5 : bs5.length ≤ ts.length + 1 := by have := Htk.out.2.1; omega
          have hbk := Htk.out.2.2
          have d0 := HT1.out.c0
          have d1' := HT1.out.c1
          have df := HT1.out.fz
          have HT2 := hide (HT1.out.set1 bk)
          have e0' := HT2.out.c0
          by_cases hbn : bk < 0
          · have HT := hide (HT2.out.set0 17)
            rw [if_pos hbn] at HST
            clear HT1 HT2 Htk
            go_wp2_with fail
            generalize hVV : (w3.setCell ⟨wr.heap.size, 1, none⟩ (.int .i64 bk)).setCell ⟨wr.heap.size, 0, none⟩ (.int .i64 17) = VV at HT ⊢
            clear hVV
            have hsz5 := hide (l3Live_any HT.out.q.ownB HSz5.out (by have := hbl5; omega))
            have c0 := HT.out.c0
            have c1 := HT.out.c1
            have c2 := HT.out.c2
            have cf := HT.out.fz
            generalize wr.heap.size = a at HT c0 c1 c2 cf ⊢
            refine hsz5.out.mono ?_
            rintro e V5 ⟨rfl, rfl⟩
            clear hsz5
            generalize hlv : liveL bs5 = LV
            have Hlv := hide hlv
            clear hlv
            have HT5 := hide (HT.out.q.setA (o := 2) HT.out.nB HT.out.nO HT.out.ha (.int .i64 LV))
            clear HT
            go_wp2_with (at_builtin; (refine wpList_append_own_at _ rfl _ _ 28 rfl w.heap.size 32 i32 (.agg #[.int .i64 0, .int .i64 0, .int .i64 0]) 3 24 Try.underlying28 hi32 hy0 hy1 hy2 rfl (by decide) _ _ _ rfl (HT5.out.ownO.alloc _) ⟨V5.heap.size, 0, none⟩ 1 1 (p3v (17, bk, LV)) rfl rfl (three_setP _ _ _ (17, bk, LV)) (p3v_one _) hM63 hM8 (HT5.out.szP _ _) ?_); intro v3 w3 hown3 hgrow3 hnil3 hat3; obtain ⟨s3, c3, rfl⟩ := own_form2 hown3; have HSt := hide (HT5.out.push (17, bk, LV) hgrow3 hown3); clear hown3 hgrow3 hnil3 hat3)
            go_roundw
            · exact ⟨ts.length + 1, _, _, _, _, by go_num, by omega, rfl, by rw [hsucc.out, HST.out]; skip, by rw [hsucc.out, HST.out]; unfold ansP; rw [Hlv.out]; exact HSt.out⟩
            · simp [intOf]; omega
          · have HT := hide HT2.out
            rw [if_neg hbn] at HST
            clear HT1 HT2 Htk
            go_wp2_with fail
            generalize hVV : w3.setCell ⟨wr.heap.size, 1, none⟩ (.int .i64 bk) = VV at HT ⊢
            clear hVV
            have hsz5 := hide (l3Live_any HT.out.q.ownB HSz5.out (by have := hbl5; omega))
            have c0 := HT.out.c0
            have c1 := HT.out.c1
            have c2 := HT.out.c2
            have cf := HT.out.fz
            generalize wr.heap.size = a at HT c0 c1 c2 cf ⊢
            refine hsz5.out.mono ?_
            rintro e V5 ⟨rfl, rfl⟩
            clear hsz5
            generalize hlv : liveL bs5 = LV
            have Hlv := hide hlv
            clear hlv
            have HT5 := hide (HT.out.q.setA (o := 2) HT.out.nB HT.out.nO HT.out.ha (.int .i64 LV))
            clear HT
            go_wp2_with (at_builtin; (refine wpList_append_own_at _ rfl _ _ 28 rfl w.heap.size 32 i32 (.agg #[.int .i64 0, .int .i64 0, .int .i64 0]) 3 24 Try.underlying28 hi32 hy0 hy1 hy2 rfl (by decide) _ _ _ rfl (HT5.out.ownO.alloc _) ⟨V5.heap.size, 0, none⟩ 1 1 (p3v (0, bk, LV)) rfl rfl (three_setP _ _ _ (0, bk, LV)) (p3v_one _) hM63 hM8 (HT5.out.szP _ _) ?_); intro v3 w3 hown3 hgrow3 hnil3 hat3; obtain ⟨s3, c3, rfl⟩ := own_form2 hown3; have HSt := hide (HT5.out.push (0, bk, LV) hgrow3 hown3); clear hown3 hgrow3 hnil3 hat3)
            go_roundw
            · exact ⟨ts.length + 1, _, _, _, _, by go_num, by omega, rfl, by rw [hsucc.out, HST.out]; skip, by rw [hsucc.out, HST.out]; unfold ansP; rw [Hlv.out]; exact HSt.out⟩
            · simp [intOf]; omega
      by_cases hk2' : kind = 2
      · subst hk2'
        by_cases hb1 : block < 0
        · have hbd : decide (block < 0) = true := decide_eq_true hb1
          have HST : Hid (stepP budget bs (2, size, block) = (bs, 15, -1)) := by
            show stepP budget bs (2, size, block) = _
            unfold stepP
            rw [if_neg (show ¬ (2 : Int) = 1 by decide), if_pos rfl, if_neg (by simp only; rintro ⟨u1, u2, u3⟩; omega)]
          have HT := hide (TA.fresh HW.out 15 (-1) #[.int .i64 2, .int .i64 size, .int .i64 block])
          have HSz5 := hide HSz.out
          have hbl5 := hbl
          clear HW HSz
          go_wp2_with fail
          generalize hVV : ((wr.alloc (.cells #[.int .i64 15, .int .i64 (-1), .int .i64 0] 32)).alloc (.cells #[.int .i64 2, .int .i64 size, .int .i64 block] 34)) = VV at HT ⊢
          clear hVV
          have hsz5 := hide (l3Live_any HT.out.q.ownB HSz5.out (by have := hbl5; omega))
          have c0 := HT.out.c0
          have c1 := HT.out.c1
          have c2 := HT.out.c2
          have cf := HT.out.fz
          generalize wr.heap.size = a at HT c0 c1 c2 cf ⊢
          refine hsz5.out.mono ?_
          rintro e V5 ⟨rfl, rfl⟩
          clear hsz5
          generalize hlv : liveL bs = LV
          have Hlv := hide hlv
          clear hlv
          have HT5 := hide (HT.out.q.setA (o := 2) HT.out.nB HT.out.nO HT.out.ha (.int .i64 LV))
          clear HT
          go_wp2_with (at_builtin; (refine wpList_append_own_at _ rfl _ _ 28 rfl w.heap.size 32 i32 (.agg #[.int .i64 0, .int .i64 0, .int .i64 0]) 3 24 Try.underlying28 hi32 hy0 hy1 hy2 rfl (by decide) _ _ _ rfl (HT5.out.ownO.alloc _) ⟨V5.heap.size, 0, none⟩ 1 1 (p3v (15, -1, LV)) rfl rfl (three_setP _ _ _ (15, -1, LV)) (p3v_one _) hM63 hM8 (HT5.out.szP _ _) ?_); intro v3 w3 hown3 hgrow3 hnil3 hat3; obtain ⟨s3, c3, rfl⟩ := own_form2 hown3; have HSt := hide (HT5.out.push (15, -1, LV) hgrow3 hown3); clear hown3 hgrow3 hnil3 hat3)
          go_roundw
          · exact ⟨ts.length + 1, _, _, _, _, by go_num, by omega, rfl, by rw [hsucc.out, HST.out]; skip, by rw [hsucc.out, HST.out]; unfold ansP; rw [Hlv.out]; exact HSt.out⟩
          · simp [intOf]; omega
        have hbd : decide (block < 0) = false := decide_eq_false hb1
        by_cases hb2 : (bs.length : Int) ≤ block
        · have hbd2 : decide ((bs.length : Int) ≤ block) = true := decide_eq_true hb2
          have HST : Hid (stepP budget bs (2, size, block) = (bs, 15, -1)) := by
            show stepP budget bs (2, size, block) = _
            unfold stepP
            rw [if_neg (show ¬ (2 : Int) = 1 by decide), if_pos rfl, if_neg (by simp only; rintro ⟨u1, u2, u3⟩; omega)]
          have HT := hide (TA.fresh HW.out 15 (-1) #[.int .i64 2, .int .i64 size, .int .i64 block])
          have HSz5 := hide HSz.out
          have hbl5 := hbl
          clear HW HSz
          go_wp2_with fail
          generalize hVV : ((wr.alloc (.cells #[.int .i64 15, .int .i64 (-1), .int .i64 0] 32)).alloc (.cells #[.int .i64 2, .int .i64 size, .int .i64 block] 34)) = VV at HT ⊢
          clear hVV
          have hsz5 := hide (l3Live_any HT.out.q.ownB HSz5.out (by have := hbl5; omega))
          have c0 := HT.out.c0
          have c1 := HT.out.c1
          have c2 := HT.out.c2
          have cf := HT.out.fz
          generalize wr.heap.size = a at HT c0 c1 c2 cf ⊢
          refine hsz5.out.mono ?_
          rintro e V5 ⟨rfl, rfl⟩
          clear hsz5
          generalize hlv : liveL bs = LV
          have Hlv := hide hlv
          clear hlv
          have HT5 := hide (HT.out.q.setA (o := 2) HT.out.nB HT.out.nO HT.out.ha (.int .i64 LV))
          clear HT
          go_wp2_with (at_builtin; (refine wpList_append_own_at _ rfl _ _ 28 rfl w.heap.size 32 i32 (.agg #[.int .i64 0, .int .i64 0, .int .i64 0]) 3 24 Try.underlying28 hi32 hy0 hy1 hy2 rfl (by decide) _ _ _ rfl (HT5.out.ownO.alloc _) ⟨V5.heap.size, 0, none⟩ 1 1 (p3v (15, -1, LV)) rfl rfl (three_setP _ _ _ (15, -1, LV)) (p3v_one _) hM63 hM8 (HT5.out.szP _ _) ?_); intro v3 w3 hown3 hgrow3 hnil3 hat3; obtain ⟨s3, c3, rfl⟩ := own_form2 hown3; have HSt := hide (HT5.out.push (15, -1, LV) hgrow3 hown3); clear hown3 hgrow3 hnil3 hat3)
          go_roundw
          · exact ⟨ts.length + 1, _, _, _, _, by go_num, by omega, rfl, by rw [hsucc.out, HST.out]; skip, by rw [hsucc.out, HST.out]; unfold ansP; rw [Hlv.out]; exact HSt.out⟩
          · simp [intOf]; omega
        have hbd2 : decide ((bs.length : Int) ≤ block) = false := decide_eq_false hb2
        obtain ⟨J, rfl⟩ : ∃ J : Nat, block = (J : Int) := ⟨block.toNat, by omega⟩
        have hJ : J < bs.length := by omega
        have hJ0 : (0 : Int) ≤ (J : Int) := Int.natCast_nonneg _
        have hJ1 : (J : Int) < (bs.length : Int) := by omega
        obtain ⟨g, cg, eg, hgl⟩ := own_form3 HW.out.ownB (by omega)
        injection eg with eg1 _ eg2
        subst eg1 eg2
        have z3 : Ext wr ((wr.alloc (.cells #[.int .i64 0, .int .i64 (-1), .int .i64 0] 32)).alloc (.cells #[.int .i64 2, .int .i64 size, .int .i64 J] 34)) := ((Ext.refl wr).alloc _ _).alloc _ _
        have g1 := z3.box ((bown_at HW.out.ownB).2 J hJ).2
        have gf : ((wr.alloc (.cells #[.int .i64 0, .int .i64 (-1), .int .i64 0] 32)).alloc (.cells #[.int .i64 2, .int .i64 size, .int .i64 J] 34)).frozen? ⟨g, J * 2 + 1, none⟩ = false := (z3.fz _).trans (HW.out.ownB.frozenAt _)
        clear z3
        cases hU : (bs.getD J b0).2
        · rw [hU] at g1
          have HST : Hid (stepP budget bs (2, size, J) = (bs, 15, -1)) := by
            show stepP budget bs (2, size, J) = _
            unfold stepP
            rw [if_neg (show ¬ (2 : Int) = 1 by decide), if_pos rfl, if_neg (by simp only; rintro ⟨u1, u2, u3⟩; rw [Int.toNat_natCast, hU] at u3; cases u3)]
          have HT := hide (TA.fresh HW.out 15 (-1) #[.int .i64 2, .int .i64 size, .int .i64 J])
          have HSz5 := hide HSz.out
          have hbl5 := hbl
          clear HW HSz
          go_wp2_with fail
          generalize hVV : ((wr.alloc (.cells #[.int .i64 15, .int .i64 (-1), .int .i64 0] 32)).alloc (.cells #[.int .i64 2, .int .i64 size, .int .i64 J] 34)) = VV at HT ⊢
          clear hVV
          have hsz5 := hide (l3Live_any HT.out.q.ownB HSz5.out (by have := hbl5; omega))
          have c0 := HT.out.c0
          have c1 := HT.out.c1
          have c2 := HT.out.c2
          have cf := HT.out.fz
          generalize wr.heap.size = a at HT c0 c1 c2 cf ⊢
          refine hsz5.out.mono ?_
          rintro e V5 ⟨rfl, rfl⟩
          clear hsz5
          generalize hlv : liveL bs = LV
          have Hlv := hide hlv
          clear hlv
          have HT5 := hide (HT.out.q.setA (o := 2) HT.out.nB HT.out.nO HT.out.ha (.int .i64 LV))
          clear HT
          go_wp2_with (at_builtin; (refine wpList_append_own_at _ rfl _ _ 28 rfl w.heap.size 32 i32 (.agg #[.int .i64 0, .int .i64 0, .int .i64 0]) 3 24 Try.underlying28 hi32 hy0 hy1 hy2 rfl (by decide) _ _ _ rfl (HT5.out.ownO.alloc _) ⟨V5.heap.size, 0, none⟩ 1 1 (p3v (15, -1, LV)) rfl rfl (three_setP _ _ _ (15, -1, LV)) (p3v_one _) hM63 hM8 (HT5.out.szP _ _) ?_); intro v3 w3 hown3 hgrow3 hnil3 hat3; obtain ⟨s3, c3, rfl⟩ := own_form2 hown3; have HSt := hide (HT5.out.push (15, -1, LV) hgrow3 hown3); clear hown3 hgrow3 hnil3 hat3)
          go_roundw
          · exact ⟨ts.length + 1, _, _, _, _, by go_num, by omega, rfl, by rw [hsucc.out, HST.out]; skip, by rw [hsucc.out, HST.out]; unfold ansP; rw [Hlv.out]; exact HSt.out⟩
          · simp [intOf]; omega
        · rw [hU] at g1
          have HST : Hid (stepP budget bs (2, size, J) = (bs.set J ((bs.getD J b0).1, false), (0 : Int), (J : Int))) := by
            show stepP budget bs (2, size, J) = _
            unfold stepP
            rw [if_neg (show ¬ (2 : Int) = 1 by decide), if_pos rfl, if_pos (by simp only; rw [Int.toNat_natCast]; exact ⟨hJ0, hJ1, hU⟩)]
            simp only
            rw [Int.toNat_natCast]
          have HT0 := hide (TA.fresh HW.out 0 (-1) #[.int .i64 2, .int .i64 size, .int .i64 J])
          have hst := HT0.out.q.ownB.stored (J * 2 + 1) (.bool false)
          rw [bcells_set bs J false hJ] at hst
          have HT1 := hide (HT0.out.grow (bs' := bs.set J ((bs.getD J b0).1, false)) hst.2 (by rw [List.length_set]; exact hst.1) (Or.inl rfl))
          have HSz5 := hide (HSz.out.set J ((bs.getD J b0).1, false) (HSz.out.at J hJ))
          have hbl5 : (bs.set J ((bs.getD J b0).1, false)).length ≤ ts.length := by rw [List.length_set]; exact hbl
          have hgw : g < wr.heap.size := (HW.out.ownB.lt g rfl).2
          have x2' := ((Mut.refl g ((wr.alloc (.cells #[.int .i64 0, .int .i64 (-1), .int .i64 0] 32)).alloc (.cells #[.int .i64 2, .int .i64 size, .int .i64 J] 34))).setCell (J * 2 + 1) (.bool false)).box (by omega) x2
          have hsl : Hid (bs.length = (bs.set J ((bs.getD J b0).1, false)).length) := by show bs.length = _; rw [List.length_set]
          have hst2 := HW.out.ownB.stored (J * 2 + 1) (.bool false)
          rw [bcells_set bs J false hJ] at hst2
          have HW5 : Hid (QS w (wr.setCell ⟨g, J * 2 + 1, none⟩ (.bool false)) (bs.set J ((bs.getD J b0).1, false)) ts (.slice (some ⟨g, 0, none⟩) bs.length c') (.slice s ts.length c)) := HW.out.grow hst2.2 (by rw [List.length_set]; exact hst2.1)
          have HT := hide (TA.fresh HW5.out 0 J #[.int .i64 2, .int .i64 size, .int .i64 J])
          have es : (wr.setCell ⟨g, J * 2 + 1, none⟩ (.bool false)).heap.size = wr.heap.size := by simp [World.setCell]
          rw [es] at HT
          clear hst hst2 HW HW5 HT0 es
          generalize hbs5 : bs.set J ((bs.getD J b0).1, false) = bs5 at HT1 HT HST HSz5 hbl5 hsl
          clear hbs5
          have d0 := HT1.out.c0
          have d1' := HT1.out.c1
          have df := HT1.out.fz
          clear HT1
          go_wp2_with fail
          generalize hVV : ((wr.setCell ⟨g, J * 2 + 1, none⟩ (.bool false)).alloc (.cells #[.int .i64 0, .int .i64 J, .int .i64 0] 32)).alloc (.cells #[.int .i64 2, .int .i64 size, .int .i64 J] 34) = VV at HT ⊢
          clear hVV
          have hsz5 := hide (l3Live_any HT.out.q.ownB HSz5.out (by have := hbl5; omega))
          have c0 := HT.out.c0
          have c1 := HT.out.c1
          have c2 := HT.out.c2
          have cf := HT.out.fz
          generalize wr.heap.size = a at HT c0 c1 c2 cf ⊢
          refine hsz5.out.mono ?_
          rintro e V5 ⟨rfl, rfl⟩
          clear hsz5
          generalize hlv : liveL bs5 = LV
          have Hlv := hide hlv
          clear hlv
          have HT5 := hide (HT.out.q.setA (o := 2) HT.out.nB HT.out.nO HT.out.ha (.int .i64 LV))
          clear HT
          go_wp2_with (at_builtin; (refine wpList_append_own_at _ rfl _ _ 28 rfl w.heap.size 32 i32 (.agg #[.int .i64 0, .int .i64 0, .int .i64 0]) 3 24 Try.underlying28 hi32 hy0 hy1 hy2 rfl (by decide) _ _ _ rfl (HT5.out.ownO.alloc _) ⟨V5.heap.size, 0, none⟩ 1 1 (p3v (0, J, LV)) rfl rfl (three_setP _ _ _ (0, J, LV)) (p3v_one _) hM63 hM8 (HT5.out.szP _ _) ?_); intro v3 w3 hown3 hgrow3 hnil3 hat3; obtain ⟨s3, c3, rfl⟩ := own_form2 hown3; have HSt := hide (HT5.out.push (0, J, LV) hgrow3 hown3); clear hown3 hgrow3 hnil3 hat3)
          go_roundw
          · exact ⟨ts.length + 1, _, _, _, _, by go_num, by omega, rfl, by rw [hsucc.out, HST.out]; rw [hsl.out], by rw [hsucc.out, HST.out]; unfold ansP; rw [Hlv.out]; exact HSt.out⟩
          · simp [intOf]; omega
      have hkb1 : (kind == 1) = false := by simp [hk1']
      have hkb2 : (kind == 2) = false := by simp [hk2']
      have HST : Hid (stepP budget bs (kind, size, block) = (bs, 3, -1)) := by show stepP budget bs (kind, size, block) = _; unfold stepP; rw [if_neg hk1', if_neg hk2']
      have HT := hide (TA.fresh HW.out 3 (-1) #[.int .i64 kind, .int .i64 size, .int .i64 block])
      have HSz5 := hide HSz.out
      have hbl5 := hbl
      clear HW HSz
      go_wp2_with fail
      generalize hVV : ((wr.alloc (.cells #[.int .i64 3, .int .i64 (-1), .int .i64 0] 32)).alloc (.cells #[.int .i64 kind, .int .i64 size, .int .i64 block] 34)) = VV at HT ⊢
      clear hVV
      have hsz5 := hide (l3Live_any HT.out.q.ownB HSz5.out (by have := hbl5; omega))
      have c0 := HT.out.c0
      have c1 := HT.out.c1
      have c2 := HT.out.c2
      have cf := HT.out.fz
      generalize wr.heap.size = a at HT c0 c1 c2 cf ⊢
      refine hsz5.out.mono ?_
      rintro e V5 ⟨rfl, rfl⟩
      clear hsz5
      generalize hlv : liveL bs = LV
      have Hlv := hide hlv
      clear hlv
      have HT5 := hide (HT.out.q.setA (o := 2) HT.out.nB HT.out.nO HT.out.ha (.int .i64 LV))
      clear HT
      go_wp2_with (at_builtin; (refine wpList_append_own_at _ rfl _ _ 28 rfl w.heap.size 32 i32 (.agg #[.int .i64 0, .int .i64 0, .int .i64 0]) 3 24 Try.underlying28 hi32 hy0 hy1 hy2 rfl (by decide) _ _ _ rfl (HT5.out.ownO.alloc _) ⟨V5.heap.size, 0, none⟩ 1 1 (p3v (3, -1, LV)) rfl rfl (three_setP _ _ _ (3, -1, LV)) (p3v_one _) hM63 hM8 (HT5.out.szP _ _) ?_); intro v3 w3 hown3 hgrow3 hnil3 hat3; obtain ⟨s3, c3, rfl⟩ := own_form2 hown3; have HSt := hide (HT5.out.push (3, -1, LV) hgrow3 hown3); clear hown3 hgrow3 hnil3 hat3)
      go_roundw
      · exact ⟨ts.length + 1, _, _, _, _, by go_num, by omega, rfl, by rw [hsucc.out, HST.out]; skip, by rw [hsucc.out, HST.out]; unfold ansP; rw [Hlv.out]; exact HSt.out⟩
      · simp [intOf]; omega
    · have hkk : k = ops.length := by omega
      subst hkk
      go_wp2
      go_ret
      exact pown_of (Nat.le_refl _) HW.out.bl HW.out.ownO
end Go.Proofs.Ytjjemnlknnnkbaa
