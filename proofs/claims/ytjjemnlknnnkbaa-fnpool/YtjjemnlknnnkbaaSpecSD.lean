import Derived.Test.YtjjemnlknnnkbaaTurns
namespace Go.Proofs.Ytjjemnlknnnkbaa
open Go.ChangeShapes Go.RowKit Go.MuLone
set_option linter.unusedSimpArgs false
set_option linter.unusedVariables false

/-- The rounds of the loop over the turns. -/
def SRel (w : World) (g n : Nat) (tiles : Int) (picks : List Int) (o m i : Value) (wr : World) : Prop :=
  ∃ (k : Nat) (s : Option Addr) (c : Nat), i = .int .i64 k ∧ (k : Int) ≤ 2 * tiles ∧ o = .slice s k c ∧ m = .int .i64 (turnsL n tiles picks k).2.1 ∧ SW w wr g (turnsL n tiles picks k).2.2 (turnsL n tiles picks k).1 o

set_option maxRecDepth 100000 in
set_option maxHeartbeats 1000000 in
theorem sSC_good {w : World} {v : Value} {picks : List Int} (h : Ints w v picks) (tiles : Int) (n : Nat) (ht : 0 ≤ tiles ∧ tiles ≤ 4096) (hn : 1 ≤ n ∧ n ≤ 64) (hp : picks.length ≤ 10000) :
    Calls Try.prog 12 #[.int .i64 tiles, .int .i64 n, v] w fun e w' => TOk w (turnsL n tiles picks (2 * tiles).toNat).1 e w' := by
  obtain ⟨i2, hi2, hz0, hz1, hz2⟩ := info_parts info2
  obtain ⟨i68, hi68, hy0, hy1, hy2⟩ := info_parts info68
  have HS := hide h
  obtain ⟨sa, cap, rfl, hr⟩ := h
  clear hr
  have S0 := hide (CL.start (w.alloc (.cells #[] 68)))
  have O0 : Hid ((w.alloc (.cells #[] 68)).ownsRow w.heap.size 68 3 (.slice (some ⟨w.heap.size, 0, none⟩) 0 0) 0 []) := World.ownsRow_made (base := w.heap.size) (e := 68) (size := 3) w #[] 0 (Nat.le_refl _) (by unfold maxLen; omega) rfl
  have E0 : Hid (Ext w (w.alloc (.cells #[] 68))) := (Ext.refl w).alloc _ _
  have d1 : decide (tiles < 0) = false := decide_eq_false (by omega)
  have d2 : decide (4096 < tiles) = false := decide_eq_false (by omega)
  have d3 : decide ((n : Int) < 1) = false := decide_eq_false (by omega)
  have d4 : decide (64 < (n : Int)) = false := decide_eq_false (by omega)
  have d5 : decide (10000 < (picks.length : Int)) = false := decide_eq_false (by omega)
  go_enter Try.func12, Try.ntmps12
  go_wp2_with fail
  clear d1 d2 d3 d4 d5
  have hs0 : (w.alloc (.cells #[] 68)).heap.size = w.heap.size + 1 := by simp
  generalize hW0 : w.alloc (.cells #[] 68) = W0 at S0 O0 E0 hs0 ⊢
  clear hW0
  rw [← hs0]
  have Hs0 := hide hs0
  clear hs0
  go_loopw [8, 9] (fun o i wr => ∃ k : Nat, i = .int .i64 k ∧ k ≤ n ∧ (∃ s c, o = .slice s k c) ∧ CL W0 wr (List.replicate k (-1)) o) (fun o i _ => n - (intOf i).toNat)
  case atStart => exact ⟨0, rfl, by omega, ⟨_, _, rfl⟩, S0.out⟩
  case round =>
    obtain ⟨k, rfl, hk, ⟨s, c, rfl⟩, hC⟩ := hrel
    have HC := hide hC
    clear hC
    by_cases hlt : k < n
    · have hk1 : (k : Int) < (n : Int) := by omega
      have hlT : (List.replicate k (-1 : Int)).length = k := by simp
      have hsn : Hid (List.replicate (k + 1) (-1 : Int) = List.replicate k (-1 : Int) ++ [-1]) := List.replicate_succ'
      generalize hT : List.replicate k (-1 : Int) = T at HC hlT hsn
      subst hlT
      go_wp2_with (at_builtin; (refine wpList_append_own _ rfl _ _ 30 rfl W0.heap.size 2 i2 (.int .i64 0) 1 8 Try.underlying30 hi2 hz0 hz1 hz2 rfl (by decide) _ _ _ rfl (HC.out.own.alloc _) ⟨wr.heap.size, 0, none⟩ 1 1 [.int .i64 (-1)] rfl rfl (cell_one_new _ _ _) (one_val _) (by unfold maxLen; omega) (by omega) (HC.out.szP _) ?_); intro v3 w3 hown3 hgrow3 hnil3)
      have St := HC.out.step _ hown3 hgrow3
      obtain ⟨s3, c3, rfl⟩ := own_form2 hown3
      have HSt := hide St
      clear St hown3 hgrow3 hnil3
      go_wp2
      go_roundw
      · exact ⟨T.length + 1, by go_num, by omega, ⟨_, _, rfl⟩, by rw [hsn.out]; exact HSt.out⟩
      · simp [intOf]; omega
    · have hkk : k = n := by omega
      subst hkk
      have hC := HC.out
      clear HC
      obtain ⟨g, hg⟩ : ∃ g, s = some ⟨g, 0, none⟩ := by
        rcases hC.own.2 with ⟨h1, h2⟩ | ⟨g, cap, cur, h1, _⟩
        · rw [List.length_replicate] at h2; omega
        · injection h1 with h1 _ _; exact ⟨g, h1⟩
      subst hg
      have hown := hC.own
      rw [List.length_replicate] at hown
      have S1 : SW w wr g (List.replicate k (-1)) [] (.slice (some ⟨w.heap.size, 0, none⟩) 0 0) := by
        have hgl := hown.lt g rfl
        have hs0 := Hs0.out
        refine ⟨(row_of_own hown).1, fun o => hown.frozenAt o, by omega, hgl.2, own_below O0.out hC.bl (fun q hq => by simp [Value.ownBlock] at hq; omega), ?_, Bel.tr E0.out.bl hC.bl⟩
        simp [Value.ownBlock]; omega
      have HS1 := hide S1
      clear S1 hown hC hlt
      go_wp2_with fail
      go_loopw [7, 10, 11] (fun o m i wr => SRel w g k tiles picks o m i wr) (fun o m i _ => (2 * tiles).toNat - (intOf i).toNat)
      case atStart => exact ⟨0, _, _, rfl, by omega, rfl, rfl, HS1.out⟩
      case round =>
        obtain ⟨j, s, c', rfl, hj, rfl, rfl, hW⟩ := hrel
        have HW := hide hW
        have hI := hide (turns_inv k tiles picks (by omega) ht.1 j hj)
        clear hW
        by_cases hlt : (j : Int) < 2 * tiles
        · obtain ⟨T, hT⟩ : ∃ T, turnsL k tiles picks j = T := ⟨_, rfl⟩
          have hsucc := hide (turns_succ k tiles picks j)
          have hlen := turns_len k tiles picks j
          rw [hT] at HW hI hsucc hlen ⊢
          obtain ⟨ts, taken, held⟩ := T
          simp only at HW hI hsucc hlen ⊢
          subst hlen
          have hxl := hide (seek_lt held k (decide (taken < tiles)) (((picks.getD ts.length 0).emod k).toNat) (pick_lt _ k (by omega)))
          have Hturn := hide (hI.out.turn (by omega) hlt (picks.getD ts.length 0))
          generalize hp0 : picks.getD ts.length 0 = p at hsucc hxl Hturn
          have Hp0 := hide hp0
          clear hp0 hT
          have HL := hide hI.out.len
          have HY := hide (pick_lt p k (by omega))
          have HT : Hid (turnL k tiles (taken, held) p = if 0 ≤ held.getD (seek held k (decide (taken < tiles)) (p.emod k).toNat) 0 then ((((seek held k (decide (taken < tiles)) (p.emod k).toNat : Nat) : Int), held.getD (seek held k (decide (taken < tiles)) (p.emod k).toNat) 0, true), taken, held.set (seek held k (decide (taken < tiles)) (p.emod k).toNat) (-1)) else ((((seek held k (decide (taken < tiles)) (p.emod k).toNat : Nat) : Int), taken, false), taken + 1, held.set (seek held k (decide (taken < tiles)) (p.emod k).toNat) taken)) := rfl
          by_cases hpk : ts.length < picks.length
          · have hpk' : (ts.length : Int) < (picks.length : Int) := by omega
            have hj0 : (0 : Int) ≤ (ts.length : Int) := Int.natCast_nonneg _
            obtain ⟨sa0, cap0, e0, hr⟩ := HS.out
            injection e0 with e1 _ e2
            subst e1 e2
            rcases hr with h0 | ⟨b, off, rfl, hrow⟩
            · rw [h0] at hpk; simp at hpk
            have q0 := Bel.box HW.out.bl (hrow ts.length hpk)
            rw [Hp0.out] at q0
            clear hrow
            have hbd := tmod_bd p k hn
            have hem := emod_of_tmod p k hn.1
            have hne : ¬ (k : Int) = 0 := by omega
            have hnb : ((k : Int) == 0) = false := by rw [beq_eq_false_iff_ne]; exact hne
            have hnm : ((k : Int) == -1) = false := by rw [beq_eq_false_iff_ne]; omega
            generalize (p.emod k).toNat = y at hem hxl Hturn HT HY
            generalize hM : Int.tmod p k = M at hbd hem
            by_cases hneg : M < 0
            · rw [if_pos hneg] at hem
              go_wp2_with fail
              refine (worker_any (HW.out.row.ints (cap := c) (n := k) HL.out.symm) (by rw [HL.out]; omega) (by rw [HL.out]; omega) (decide (taken < tiles)) y (by rw [HL.out]; exact HY.out)).mono ?_
              rintro e w2 ⟨rfl, x2⟩
              have HW2 := hide (HW.out.ext x2)
              rw [HL.out]
              clear x2 HW
              generalize hx : seek held k (decide (taken < tiles)) y = x at hxl Hturn HT
              have q1 := HW2.out.row x (by rw [HL.out]; exact hxl.out)
              have hx0 : (0 : Int) ≤ (x : Int) := Int.natCast_nonneg _
              have hx1 : (x : Int) < (k : Int) := by have := hxl.out; omega
              have hxk : x < held.length := by rw [HL.out]; exact hxl.out
              rw [Nat.zero_add] at q1
              have Hhx := hide ((hI.out.hl x hxl.out).2)
              have hM63 : ts.length + 1 ≤ maxLen := by unfold maxLen; omega
              have hM8 : (ts.length + 1) * 24 ≤ 140737488355328 := by omega
              clear hx
              by_cases hz : 0 ≤ held.getD x 0
              · have HT2 := hide (HT.out.trans (if_pos hz))
                generalize hH : held.getD x 0 = H at q1 hz HT2
                clear hH Hturn hI HT
                go_wp2_with (at_builtin; (refine wpList_append_own_at _ rfl _ _ 36 rfl w.heap.size 68 i68 (.agg #[.int .i64 0, .int .i64 0, .bool false]) 3 24 Try.underlying36 hi68 hy0 hy1 hy2 rfl (by decide) _ _ _ rfl (HW2.out.own.alloc _) ⟨w2.heap.size, 0, none⟩ 1 1 (tv (x, H, true)) rfl rfl (three_new _ (x, H, true)) (tv_one _) hM63 hM8 (HW2.out.szP _) ?_); intro v3 w3 hown3 hgrow3 hnil3 hat3; obtain ⟨s3, c3, rfl⟩ := own_form2 hown3; have HSt := hide (HW2.out.push (x, H, true) hown3 hgrow3 hat3); have q3 := HSt.out.row x hxk; rw [Nat.zero_add] at q3; have qf := HSt.out.gf x; have HS2 := hide (HSt.out.set x hxk (-1)); clear hown3 hgrow3 hnil3 hat3 q1)
                go_roundw
                · exact ⟨ts.length + 1, _, _, by go_num, by omega, rfl, by rw [hsucc.out, HT2.out], by rw [hsucc.out, HT2.out]; exact HS2.out⟩
                · simp [intOf]; omega
              · have HT2 := hide (HT.out.trans (if_neg hz))
                have htk : taken < tiles := Hturn.out.resolve_left hz
                have htk0 : 0 ≤ taken := hI.out.lo
                generalize hH : held.getD x 0 = H at q1 hz HT2
                clear hH Hturn hI HT
                go_wp2_with (at_builtin; (refine wpList_append_own_at _ rfl _ _ 36 rfl w.heap.size 68 i68 (.agg #[.int .i64 0, .int .i64 0, .bool false]) 3 24 Try.underlying36 hi68 hy0 hy1 hy2 rfl (by decide) _ _ _ rfl (HW2.out.own.alloc _) ⟨w2.heap.size, 0, none⟩ 1 1 (tv (x, taken, false)) rfl rfl (three_new _ (x, taken, false)) (tv_one _) hM63 hM8 (HW2.out.szP _) ?_); intro v3 w3 hown3 hgrow3 hnil3 hat3; obtain ⟨s3, c3, rfl⟩ := own_form2 hown3; have HSt := hide (HW2.out.push (x, taken, false) hown3 hgrow3 hat3); have q3 := HSt.out.row x hxk; rw [Nat.zero_add] at q3; have qf := HSt.out.gf x; have HS2 := hide (HSt.out.set x hxk taken); clear hown3 hgrow3 hnil3 hat3 q1)
                go_roundw
                · exact ⟨ts.length + 1, _, _, by go_num, by omega, rfl, by rw [hsucc.out, HT2.out], by rw [hsucc.out, HT2.out]; exact HS2.out⟩
                · simp [intOf]; omega
            · rw [if_neg hneg] at hem
              subst hem
              go_wp2_with fail
              refine (worker_any (HW.out.row.ints (cap := c) (n := k) HL.out.symm) (by rw [HL.out]; omega) (by rw [HL.out]; omega) (decide (taken < tiles)) y (by rw [HL.out]; exact HY.out)).mono ?_
              rintro e w2 ⟨rfl, x2⟩
              have HW2 := hide (HW.out.ext x2)
              rw [HL.out]
              clear x2 HW
              generalize hx : seek held k (decide (taken < tiles)) y = x at hxl Hturn HT
              have q1 := HW2.out.row x (by rw [HL.out]; exact hxl.out)
              have hx0 : (0 : Int) ≤ (x : Int) := Int.natCast_nonneg _
              have hx1 : (x : Int) < (k : Int) := by have := hxl.out; omega
              have hxk : x < held.length := by rw [HL.out]; exact hxl.out
              rw [Nat.zero_add] at q1
              have Hhx := hide ((hI.out.hl x hxl.out).2)
              have hM63 : ts.length + 1 ≤ maxLen := by unfold maxLen; omega
              have hM8 : (ts.length + 1) * 24 ≤ 140737488355328 := by omega
              clear hx
              by_cases hz : 0 ≤ held.getD x 0
              · have HT2 := hide (HT.out.trans (if_pos hz))
                generalize hH : held.getD x 0 = H at q1 hz HT2
                clear hH Hturn hI HT
                go_wp2_with (at_builtin; (refine wpList_append_own_at _ rfl _ _ 36 rfl w.heap.size 68 i68 (.agg #[.int .i64 0, .int .i64 0, .bool false]) 3 24 Try.underlying36 hi68 hy0 hy1 hy2 rfl (by decide) _ _ _ rfl (HW2.out.own.alloc _) ⟨w2.heap.size, 0, none⟩ 1 1 (tv (x, H, true)) rfl rfl (three_new _ (x, H, true)) (tv_one _) hM63 hM8 (HW2.out.szP _) ?_); intro v3 w3 hown3 hgrow3 hnil3 hat3; obtain ⟨s3, c3, rfl⟩ := own_form2 hown3; have HSt := hide (HW2.out.push (x, H, true) hown3 hgrow3 hat3); have q3 := HSt.out.row x hxk; rw [Nat.zero_add] at q3; have qf := HSt.out.gf x; have HS2 := hide (HSt.out.set x hxk (-1)); clear hown3 hgrow3 hnil3 hat3 q1)
                go_roundw
                · exact ⟨ts.length + 1, _, _, by go_num, by omega, rfl, by rw [hsucc.out, HT2.out], by rw [hsucc.out, HT2.out]; exact HS2.out⟩
                · simp [intOf]; omega
              · have HT2 := hide (HT.out.trans (if_neg hz))
                have htk : taken < tiles := Hturn.out.resolve_left hz
                have htk0 : 0 ≤ taken := hI.out.lo
                generalize hH : held.getD x 0 = H at q1 hz HT2
                clear hH Hturn hI HT
                go_wp2_with (at_builtin; (refine wpList_append_own_at _ rfl _ _ 36 rfl w.heap.size 68 i68 (.agg #[.int .i64 0, .int .i64 0, .bool false]) 3 24 Try.underlying36 hi68 hy0 hy1 hy2 rfl (by decide) _ _ _ rfl (HW2.out.own.alloc _) ⟨w2.heap.size, 0, none⟩ 1 1 (tv (x, taken, false)) rfl rfl (three_new _ (x, taken, false)) (tv_one _) hM63 hM8 (HW2.out.szP _) ?_); intro v3 w3 hown3 hgrow3 hnil3 hat3; obtain ⟨s3, c3, rfl⟩ := own_form2 hown3; have HSt := hide (HW2.out.push (x, taken, false) hown3 hgrow3 hat3); have q3 := HSt.out.row x hxk; rw [Nat.zero_add] at q3; have qf := HSt.out.gf x; have HS2 := hide (HSt.out.set x hxk taken); clear hown3 hgrow3 hnil3 hat3 q1)
                go_roundw
                · exact ⟨ts.length + 1, _, _, by go_num, by omega, rfl, by rw [hsucc.out, HT2.out], by rw [hsucc.out, HT2.out]; exact HS2.out⟩
                · simp [intOf]; omega
          · have hpk' : ¬ (ts.length : Int) < (picks.length : Int) := by omega
            have hp0 : p = 0 := by
              rw [← Hp0.out, List.getD_eq_getElem?_getD, List.getElem?_eq_none (by omega)]; rfl
            have hy0' : (p.emod k).toNat = 0 := by rw [hp0, show (0 : Int).emod k = 0 from Int.zero_emod _]; rfl
            generalize (p.emod k).toNat = y at hxl Hturn HT HY hy0'
            subst hy0'
            go_wp2_with fail
            refine (worker_any (HW.out.row.ints (cap := c) (n := k) HL.out.symm) (by rw [HL.out]; omega) (by rw [HL.out]; omega) (decide (taken < tiles)) 0 (by rw [HL.out]; exact HY.out)).mono ?_
            rintro e w2 ⟨rfl, x2⟩
            have HW2 := hide (HW.out.ext x2)
            rw [HL.out]
            clear x2 HW
            generalize hx : seek held k (decide (taken < tiles)) 0 = x at hxl Hturn HT
            have q1 := HW2.out.row x (by rw [HL.out]; exact hxl.out)
            have hx0 : (0 : Int) ≤ (x : Int) := Int.natCast_nonneg _
            have hx1 : (x : Int) < (k : Int) := by have := hxl.out; omega
            have hxk : x < held.length := by rw [HL.out]; exact hxl.out
            rw [Nat.zero_add] at q1
            have Hhx := hide ((hI.out.hl x hxl.out).2)
            have hM63 : ts.length + 1 ≤ maxLen := by unfold maxLen; omega
            have hM8 : (ts.length + 1) * 24 ≤ 140737488355328 := by omega
            clear hx
            by_cases hz : 0 ≤ held.getD x 0
            · have HT2 := hide (HT.out.trans (if_pos hz))
              generalize hH : held.getD x 0 = H at q1 hz HT2
              clear hH Hturn hI HT
              go_wp2_with (at_builtin; (refine wpList_append_own_at _ rfl _ _ 36 rfl w.heap.size 68 i68 (.agg #[.int .i64 0, .int .i64 0, .bool false]) 3 24 Try.underlying36 hi68 hy0 hy1 hy2 rfl (by decide) _ _ _ rfl (HW2.out.own.alloc _) ⟨w2.heap.size, 0, none⟩ 1 1 (tv (x, H, true)) rfl rfl (three_new _ (x, H, true)) (tv_one _) hM63 hM8 (HW2.out.szP _) ?_); intro v3 w3 hown3 hgrow3 hnil3 hat3; obtain ⟨s3, c3, rfl⟩ := own_form2 hown3; have HSt := hide (HW2.out.push (x, H, true) hown3 hgrow3 hat3); have q3 := HSt.out.row x hxk; rw [Nat.zero_add] at q3; have qf := HSt.out.gf x; have HS2 := hide (HSt.out.set x hxk (-1)); clear hown3 hgrow3 hnil3 hat3 q1)
              go_roundw
              · exact ⟨ts.length + 1, _, _, by go_num, by omega, rfl, by rw [hsucc.out, HT2.out], by rw [hsucc.out, HT2.out]; exact HS2.out⟩
              · simp [intOf]; omega
            · have HT2 := hide (HT.out.trans (if_neg hz))
              have htk : taken < tiles := Hturn.out.resolve_left hz
              have htk0 : 0 ≤ taken := hI.out.lo
              generalize hH : held.getD x 0 = H at q1 hz HT2
              clear hH Hturn hI HT
              go_wp2_with (at_builtin; (refine wpList_append_own_at _ rfl _ _ 36 rfl w.heap.size 68 i68 (.agg #[.int .i64 0, .int .i64 0, .bool false]) 3 24 Try.underlying36 hi68 hy0 hy1 hy2 rfl (by decide) _ _ _ rfl (HW2.out.own.alloc _) ⟨w2.heap.size, 0, none⟩ 1 1 (tv (x, taken, false)) rfl rfl (three_new _ (x, taken, false)) (tv_one _) hM63 hM8 (HW2.out.szP _) ?_); intro v3 w3 hown3 hgrow3 hnil3 hat3; obtain ⟨s3, c3, rfl⟩ := own_form2 hown3; have HSt := hide (HW2.out.push (x, taken, false) hown3 hgrow3 hat3); have q3 := HSt.out.row x hxk; rw [Nat.zero_add] at q3; have qf := HSt.out.gf x; have HS2 := hide (HSt.out.set x hxk taken); clear hown3 hgrow3 hnil3 hat3 q1)
              go_roundw
              · exact ⟨ts.length + 1, _, _, by go_num, by omega, rfl, by rw [hsucc.out, HT2.out], by rw [hsucc.out, HT2.out]; exact HS2.out⟩
              · simp [intOf]; omega
        · have hjj : j = (2 * tiles).toNat := by omega
          subst hjj
          obtain ⟨T, hT⟩ : ∃ T, turnsL k tiles picks (2 * tiles).toNat = T := ⟨_, rfl⟩
          rw [hT] at HW ⊢
          have HT := hide hT
          clear hT
          go_wp2
          go_ret
          rw [HT.out]
          exact town_of (Nat.le_refl _) HW.out.bl HW.out.own
end Go.Proofs.Ytjjemnlknnnkbaa
