import Derived.Test.YtjjemnlknnnkbaaNewC
import Derived.Test.YtjjemnlknnnkbaaNext
namespace Go.Proofs.Ytjjemnlknnnkbaa
open Go.ChangeShapes Go.RowKit Go.MuLone
set_option linter.unusedSimpArgs false
set_option linter.unusedVariables false

theorem own_mut {w w' : World} {base e size n b : Nat} {v : Value} {xs : List Value} (h : w.ownsRow base e size v n xs) (m : Mut b w w') (hb : v.ownBlock ≠ some b) : w'.ownsRow base e size v n xs := by
  refine ⟨h.1, ?_⟩
  rcases h.2 with h | ⟨g, cap, cur, rfl, h1, h2, h3⟩
  · exact Or.inl h
  · refine Or.inr ⟨g, cap, cur, rfl, h1, ?_, h3⟩
    rw [m.block g (by have := (Array.getElem?_eq_some_iff.1 h2).1; exact this) (fun e => hb (by rw [← e]; rfl))]
    exact h2
theorem Crew.take {w : World} {b : Nat} {next tiles n : Int} {held : List Int} (h : Crew w b next tiles n held) (m : Nat) : Crew w b next tiles n (held.take m) :=
  ⟨h.c0, h.c2, h.c3, h.c4, fun j hj => by
    rw [List.length_take] at hj
    rw [h.ch j (by omega), List.getD_eq_getElem?_getD, List.getD_eq_getElem?_getD, List.getElem?_take, if_pos (by omega)], h.fz⟩

/-- The world of the loop over the turns: the crew in block b, the turns a row of the call's own. -/
structure IW (w wr : World) (b : Nat) (taken tiles n : Int) (held : List Int) (ts : List TurnL) (v : Value) : Prop where
  crew : Crew wr b taken tiles n held
  b0 : w.heap.size ≤ b
  own : wr.ownsRow w.heap.size 68 3 v ts.length (tcells ts)
  dj : v.ownBlock ≠ some b
  bl : Bel w wr
theorem IW.mut {w wr W : World} {b : Nat} {taken tiles n taken' : Int} {held held' : List Int} {ts : List TurnL} {v : Value} (h : IW w wr b taken tiles n held ts v) (m : Mut b wr W) (c : Crew W b taken' tiles n held') : IW w W b taken' tiles n held' ts v :=
  ⟨c, h.b0, own_mut h.own m h.dj, h.dj, h.bl.trans ⟨m.os, m.tape, m.output, m.size, fun k hk => m.block k (Nat.lt_of_lt_of_le hk (Below.size h.bl)) (by have := h.b0; omega)⟩⟩
theorem IW.push {w wr w3 : World} {b : Nat} {taken tiles n : Int} {held : List Int} {ts : List TurnL} {v v3 : Value} (h : IW w wr b taken tiles n held ts v) (t : TurnL)
    (hown : w3.ownsRow w.heap.size 68 3 v3 (ts.length + 1) (tcells ts ++ tv t)) (hgrow : (wr.alloc (.cells #[.int .i64 t.1, .int .i64 t.2.1, .bool t.2.2] 68)).grownBy w3 v.ownBlock)
    (hat : v3.ownBlock = v.ownBlock ∨ v3.ownBlock = some (wr.alloc (.cells #[.int .i64 t.1, .int .i64 t.2.1, .bool t.2.2] 68)).heap.size) : IW w w3 b taken tiles n held (ts ++ [t]) v3 := by
  have g1 := h.crew.lt
  have hb : w3.heap[b]? = wr.heap[b]? := by
    rw [hgrow.block b (by simp; omega) (fun e => h.dj e.symm)]
    exact ((Ext.refl wr).alloc #[.int .i64 t.1, .int .i64 t.2.1, .bool t.2.2] 68).bl.block b g1
  have cc : ∀ {o v}, wr.cell? ⟨b, o, none⟩ = some v → w3.cell? ⟨b, o, none⟩ = some v := fun hc => (World.cell?_of_block hb).trans hc
  refine ⟨⟨cc h.crew.c0, cc h.crew.c2, cc h.crew.c3, cc h.crew.c4, fun j hj => cc (h.crew.ch j hj), fun o => (World.frozen?_of_block hb).trans (h.crew.fz o)⟩, h.b0, ?_, ?_, ?_⟩
  · rw [List.length_append, tcells_snoc]
    exact hown
  · rcases hat with q | q
    · rw [q]; exact h.dj
    · rw [q]
      simp
      omega
  · exact (h.bl.alloc (Below.size h.bl) _).grown hgrow (by have := Below.size h.bl; simp; omega) (fun j hj => (h.own.lt j hj).1)
theorem IW.szP {w wr : World} {b : Nat} {taken tiles n : Int} {held : List Int} {ts : List TurnL} {v : Value} (h : IW w wr b taken tiles n held ts v) (A : Array Value) : w.heap.size ≤ (wr.alloc (.cells A 68)).heap.size := by
  have h1 : wr.heap.size ≤ (wr.alloc (.cells A 68)).heap.size := Below.size ((Ext.refl wr).alloc A 68).bl
  exact Nat.le_trans (Below.size h.bl) h1
def IRel (w : World) (b n : Nat) (tiles : Int) (picks : List Int) (o i : Value) (wr : World) : Prop :=
  ∃ (k : Nat) (s : Option Addr) (c : Nat), i = .int .i64 k ∧ (k : Int) ≤ 2 * tiles ∧ o = .slice s k c ∧ IW w wr b (turnsL n tiles picks k).2.1 tiles n (turnsL n tiles picks k).2.2 (turnsL n tiles picks k).1 o

set_option maxRecDepth 100000 in
set_option maxHeartbeats 1000000 in
theorem iSC_good {w : World} {v : Value} {picks : List Int} (h : Ints w v picks) (tiles : Int) (n : Nat) (ht : 0 ≤ tiles ∧ tiles ≤ 4096) (hn : 1 ≤ n ∧ n ≤ 64) (hp : picks.length ≤ 10000) :
    Calls Try.prog 14 #[.int .i64 tiles, .int .i64 n, v] w fun e w' => TOk w (turnsL n tiles picks (2 * tiles).toNat).1 e w' := by
  obtain ⟨i68, hi68, hy0, hy1, hy2⟩ := info_parts info68
  have HS := hide h
  obtain ⟨sa, cap, rfl, hr⟩ := h
  clear hr
  have d1 : decide (tiles < 0) = false := decide_eq_false (by omega)
  have d2 : decide (4096 < tiles) = false := decide_eq_false (by omega)
  have d3 : decide ((n : Int) < 1) = false := decide_eq_false (by omega)
  have d4 : decide (64 < (n : Int)) = false := decide_eq_false (by omega)
  have d5 : decide (10000 < (picks.length : Int)) = false := decide_eq_false (by omega)
  go_enter Try.func14, Try.ntmps14
  go_wp2_with fail
  clear d1 d2 d3 d4 d5
  refine (newCrew_any _ tiles n).mono ?_
  rintro e w1 ⟨rfl, hC, hX⟩
  have hmk := run_make (P := Try.prog) w1 36 68 i68 (.agg #[.int .i64 0, .int .i64 0, .bool false]) Try.underlying36 hi68 hy0 .i64 .i64 0 (2 * tiles) (by omega) (by omega) (by rw [hy2]; omega) (by omega)
  have S0 : IW w (w1.alloc (.cells (madeCells #[.int .i64 0, .int .i64 0, .bool false] ((2 * tiles).toNat * 3)) 68)) w.heap.size 0 tiles n (List.replicate n (-1)) [] (.slice (some ⟨w1.heap.size, 0, none⟩) 0 (2 * tiles).toNat) := by
    have hx : Ext w1 (w1.alloc (.cells (madeCells #[.int .i64 0, .int .i64 0, .bool false] ((2 * tiles).toNat * 3)) 68)) := (Ext.refl w1).alloc _ _
    have hc := (hC.take n).ext hx
    have e : (List.replicate 64 (-1 : Int)).take n = List.replicate n (-1) := by rw [List.take_replicate, Nat.min_eq_left hn.2]
    rw [e] at hc
    refine ⟨hc, Nat.le_refl _, World.ownsRow_made (base := w.heap.size) (e := 68) (size := 3) w1 _ (2 * tiles).toNat (Below.size hX.bl) (by unfold maxLen; omega) (by simp [madeCells]), ?_, Bel.tr hX.bl hx.bl⟩
    have := hC.lt
    simp [Value.ownBlock]; omega
  have HS0 := hide S0
  clear S0 hC hX
  go_wp2_with fail
  have Hb : Hid (w.heap.size = w.heap.size) := rfl
  generalize hW : w1.alloc (.cells (madeCells #[.int .i64 0, .int .i64 0, .bool false] ((2 * tiles).toNat * 3)) 68) = W at HS0 ⊢
  clear hW hmk
  generalize hbb : w.heap.size = b at HS0 ⊢
  have Hbb := hide hbb
  have HS0' : Hid (IW w W b 0 tiles n (List.replicate n (-1)) [] (.slice (some ⟨w1.heap.size, 0, none⟩) 0 (2 * tiles).toNat)) := HS0.out
  clear hbb
  go_loopw [8, 39] (fun o i wr => IRel w b n tiles picks o i wr) (fun o i _ => (2 * tiles).toNat - (intOf i).toNat)
  case atStart => exact ⟨0, _, _, rfl, by omega, rfl, HS0'.out⟩
  case round =>
    obtain ⟨j, s, c', rfl, hj, rfl, hW⟩ := hrel
    have HW := hide hW
    have hI := hide (turns_inv n tiles picks (by omega) ht.1 j hj)
    clear hW
    by_cases hlt : (j : Int) < 2 * tiles
    · obtain ⟨T, hT⟩ : ∃ T, turnsL n tiles picks j = T := ⟨_, rfl⟩
      have hsucc := hide (turns_succ n tiles picks j)
      have hlen := turns_len n tiles picks j
      rw [hT] at HW hI hsucc hlen
      obtain ⟨ts, taken, held⟩ := T
      simp only at HW hI hsucc hlen
      subst hlen
      have hxl := hide (seek_lt held n (decide (taken < tiles)) (((picks.getD ts.length 0).emod n).toNat) (pick_lt _ n (by omega)))
      have Hturn := hide (hI.out.turn (by omega) hlt (picks.getD ts.length 0))
      generalize hp0 : picks.getD ts.length 0 = p at hsucc hxl Hturn
      have Hp0 := hide hp0
      clear hp0 hT
      have HL := hide hI.out.len
      have HT : Hid (turnL n tiles (taken, held) p = if 0 ≤ held.getD (seek held n (decide (taken < tiles)) (p.emod n).toNat) 0 then ((((seek held n (decide (taken < tiles)) (p.emod n).toNat : Nat) : Int), held.getD (seek held n (decide (taken < tiles)) (p.emod n).toNat) 0, true), taken, held.set (seek held n (decide (taken < tiles)) (p.emod n).toNat) (-1)) else ((((seek held n (decide (taken < tiles)) (p.emod n).toNat : Nat) : Int), taken, false), taken + 1, held.set (seek held n (decide (taken < tiles)) (p.emod n).toNat) taken)) := rfl
      have Hnx := hide (fun (W : World) (hc : Crew W b taken tiles n held) => next_any W hc HL.out hn (fun j hj => (hI.out.hl j hj).1) hI.out.hi (fun e => hI.out.some hlt e) p)
      generalize seek held n (decide (taken < tiles)) (p.emod n).toNat = x at hxl Hturn HT Hnx
      have hM63 : ts.length + 1 ≤ maxLen := by unfold maxLen; omega
      have hM8 : (ts.length + 1) * 24 ≤ 140737488355328 := by omega
      have hlo := hI.out.lo
      have hhi := hI.out.hi
      by_cases hpk : ts.length < picks.length
      · have hpk' : (ts.length : Int) < (picks.length : Int) := by omega
        have hj0 : (0 : Int) ≤ (ts.length : Int) := Int.natCast_nonneg _
        obtain ⟨sa0, cap0, e0, hr⟩ := HS.out
        injection e0 with e1 _ e2
        subst e1 e2
        rcases hr with h0 | ⟨bp, off, rfl, hrow⟩
        · rw [h0] at hpk; simp at hpk
        have q0 := Bel.box HW.out.bl (hrow ts.length hpk)
        rw [Hp0.out] at q0
        clear hrow
        go_wp2_with fail
        refine (Hnx.out _ HW.out.crew).mono ?_
        rintro e w2 ⟨rfl, hC2, hM2⟩
        have HW2 := hide (HW.out.mut hM2 hC2)
        clear hC2 hM2 HW Hnx
        have hxk : x < held.length := by rw [HL.out]; exact hxl.out
        have hhl : held.length ≤ 64 := by rw [HL.out]; omega
        by_cases hz : 0 ≤ held.getD x 0
        · have HT2 := hide (HT.out.trans (if_pos hz))
          generalize hH : held.getD x 0 = H at hz HT2
          go_wp2_with fail
          refine (turn_done _ HW2.out.crew x hxk hhl H hH hz).mono ?_
          rintro e w4 ⟨rfl, hC4, hM4⟩
          have HW4 := hide (HW2.out.mut hM4 hC4)
          clear hC4 hM4 HW2 hH Hturn hI HT
          go_wp2_with (at_builtin; (refine wpList_append_own_at _ rfl _ _ 36 rfl w.heap.size 68 i68 (.agg #[.int .i64 0, .int .i64 0, .bool false]) 3 24 Try.underlying36 hi68 hy0 hy1 hy2 rfl (by decide) _ _ _ rfl (HW4.out.own.alloc _) ⟨w4.heap.size, 0, none⟩ 1 1 (tv (x, H, true)) rfl rfl (three_new _ (x, H, true)) (tv_one _) hM63 hM8 (HW4.out.szP _) ?_); intro v3 w3 hown3 hgrow3 hnil3 hat3; obtain ⟨s3, c3, rfl⟩ := own_form2 hown3; have HSt := hide (HW4.out.push (x, H, true) hown3 hgrow3 hat3); clear hown3 hgrow3 hnil3 hat3)
          go_roundw
          · exact ⟨ts.length + 1, _, _, by go_num, by omega, rfl, by rw [hsucc.out, HT2.out]; exact HSt.out⟩
          · simp [intOf]; omega
        · have HT2 := hide (HT.out.trans (if_neg hz))
          have htk : taken < tiles := Hturn.out.resolve_left hz
          have hH : held.getD x 0 = -1 := by have := (hI.out.hl x hxl.out).1; omega
          go_wp2_with fail
          refine (turn_take _ HW2.out.crew x hxk hhl hH ⟨hlo, by omega⟩).mono ?_
          rintro e w4 ⟨rfl, hC4, hM4⟩
          have HW4 := hide (HW2.out.mut hM4 hC4)
          clear hC4 hM4 HW2 hH Hturn hI HT hz
          go_wp2_with (at_builtin; (refine wpList_append_own_at _ rfl _ _ 36 rfl w.heap.size 68 i68 (.agg #[.int .i64 0, .int .i64 0, .bool false]) 3 24 Try.underlying36 hi68 hy0 hy1 hy2 rfl (by decide) _ _ _ rfl (HW4.out.own.alloc _) ⟨w4.heap.size, 0, none⟩ 1 1 (tv (x, taken, false)) rfl rfl (three_new _ (x, taken, false)) (tv_one _) hM63 hM8 (HW4.out.szP _) ?_); intro v3 w3 hown3 hgrow3 hnil3 hat3; obtain ⟨s3, c3, rfl⟩ := own_form2 hown3; have HSt := hide (HW4.out.push (x, taken, false) hown3 hgrow3 hat3); clear hown3 hgrow3 hnil3 hat3)
          go_roundw
          · exact ⟨ts.length + 1, _, _, by go_num, by omega, rfl, by rw [hsucc.out, HT2.out]; exact HSt.out⟩
          · simp [intOf]; omega
      · have hpk' : ¬ (ts.length : Int) < (picks.length : Int) := by omega
        have hp0 : p = 0 := by
          rw [← Hp0.out, List.getD_eq_getElem?_getD, List.getElem?_eq_none (by omega)]; rfl
        subst hp0
        go_wp2_with fail
        refine (Hnx.out _ HW.out.crew).mono ?_
        rintro e w2 ⟨rfl, hC2, hM2⟩
        have HW2 := hide (HW.out.mut hM2 hC2)
        clear hC2 hM2 HW Hnx
        have hxk : x < held.length := by rw [HL.out]; exact hxl.out
        have hhl : held.length ≤ 64 := by rw [HL.out]; omega
        by_cases hz : 0 ≤ held.getD x 0
        · have HT2 := hide (HT.out.trans (if_pos hz))
          generalize hH : held.getD x 0 = H at hz HT2
          go_wp2_with fail
          refine (turn_done _ HW2.out.crew x hxk hhl H hH hz).mono ?_
          rintro e w4 ⟨rfl, hC4, hM4⟩
          have HW4 := hide (HW2.out.mut hM4 hC4)
          clear hC4 hM4 HW2 hH Hturn hI HT
          go_wp2_with (at_builtin; (refine wpList_append_own_at _ rfl _ _ 36 rfl w.heap.size 68 i68 (.agg #[.int .i64 0, .int .i64 0, .bool false]) 3 24 Try.underlying36 hi68 hy0 hy1 hy2 rfl (by decide) _ _ _ rfl (HW4.out.own.alloc _) ⟨w4.heap.size, 0, none⟩ 1 1 (tv (x, H, true)) rfl rfl (three_new _ (x, H, true)) (tv_one _) hM63 hM8 (HW4.out.szP _) ?_); intro v3 w3 hown3 hgrow3 hnil3 hat3; obtain ⟨s3, c3, rfl⟩ := own_form2 hown3; have HSt := hide (HW4.out.push (x, H, true) hown3 hgrow3 hat3); clear hown3 hgrow3 hnil3 hat3)
          go_roundw
          · exact ⟨ts.length + 1, _, _, by go_num, by omega, rfl, by rw [hsucc.out, HT2.out]; exact HSt.out⟩
          · simp [intOf]; omega
        · have HT2 := hide (HT.out.trans (if_neg hz))
          have htk : taken < tiles := Hturn.out.resolve_left hz
          have hH : held.getD x 0 = -1 := by have := (hI.out.hl x hxl.out).1; omega
          go_wp2_with fail
          refine (turn_take _ HW2.out.crew x hxk hhl hH ⟨hlo, by omega⟩).mono ?_
          rintro e w4 ⟨rfl, hC4, hM4⟩
          have HW4 := hide (HW2.out.mut hM4 hC4)
          clear hC4 hM4 HW2 hH Hturn hI HT hz
          go_wp2_with (at_builtin; (refine wpList_append_own_at _ rfl _ _ 36 rfl w.heap.size 68 i68 (.agg #[.int .i64 0, .int .i64 0, .bool false]) 3 24 Try.underlying36 hi68 hy0 hy1 hy2 rfl (by decide) _ _ _ rfl (HW4.out.own.alloc _) ⟨w4.heap.size, 0, none⟩ 1 1 (tv (x, taken, false)) rfl rfl (three_new _ (x, taken, false)) (tv_one _) hM63 hM8 (HW4.out.szP _) ?_); intro v3 w3 hown3 hgrow3 hnil3 hat3; obtain ⟨s3, c3, rfl⟩ := own_form2 hown3; have HSt := hide (HW4.out.push (x, taken, false) hown3 hgrow3 hat3); clear hown3 hgrow3 hnil3 hat3)
          go_roundw
          · exact ⟨ts.length + 1, _, _, by go_num, by omega, rfl, by rw [hsucc.out, HT2.out]; exact HSt.out⟩
          · simp [intOf]; omega
    · have hjj : j = (2 * tiles).toNat := by omega
      subst hjj
      obtain ⟨T, hT⟩ : ∃ T, turnsL n tiles picks (2 * tiles).toNat = T := ⟨_, rfl⟩
      rw [hT] at HW
      have HT := hide hT
      clear hT
      go_wp2
      go_ret
      rw [HT.out]
      exact town_of (Nat.le_refl _) HW.out.bl HW.out.own
end Go.Proofs.Ytjjemnlknnnkbaa
