import Derived.Test.YtjjemnlknnnkbaaDPool
namespace Go.Proofs.Ytjjemnlknnnkbaa
open Go.ChangeShapes Go.RowKit Go.MuLone
set_option linter.unusedSimpArgs false
set_option linter.unusedVariables false
def DrawPOk (w : World) (dp : Int × List P3) (e : Ending) (w' : World) : Prop :=
  ∃ (v : Value), e = .returned (.tuple #[.int .i64 dp.1, v]) ∧ PV w' v dp.2 ∧ Bel w w'
theorem own_pv {w : World} {base n : Nat} {v : Value} {ts : List P3} (h : w.ownsRow base 34 3 v n (p3cells ts)) : PV w v ts := by
  have hl : n = ts.length := by have := h.1; rw [p3cells_len] at this; omega
  rcases h.2 with ⟨h1, h2⟩ | ⟨g, cap, cur, h1, hg, _⟩
  · have : ts = [] := List.eq_nil_of_length_eq_zero (by omega)
    subst this
    exact ⟨none, 0, by rw [h1]; rfl, Or.inl rfl⟩
  · subst h1
    refine ⟨_, cap, by rw [hl], Or.inr ⟨g, 0, rfl, fun j hj => ?_⟩⟩
    have hb := fun (i : Nat) (hi : i < 3) => (h.cellAt (j * 3 + i) (by omega)).trans (p3cells_at ts j i hj hi)
    rw [Nat.zero_add]
    exact ⟨hb 0 (by omega), hb 1 (by omega), hb 2 (by omega)⟩
theorem Src.nextB {w : World} {b : Nat} {sv : Value} {cs : List Int} {s : SS} {size : Int} (h : Src w b sv cs s size) (m : Int) (hm : 1 ≤ m) : 0 ≤ (nextL cs s m).1 ∧ (nextL cs s m).1 < m := ⟨(h.nextBd m).1, (h.nextBd m).2 hm⟩
theorem bud_0 {ds : List Int} {s0 s1 s2 s3 : SS} {v1 v3 : Int} (h1 : nextL ds s0 60 = (v1, s1)) (h2 : nextL ds s1 16 = (0, s2)) (h3 : nextL ds s2 2 = (v3, s3)) : budL ds s0 = (v3 * 9223372036854775807 - 1, s3) := by
  unfold budL; rw [h1]; dsimp only; rw [h2]; dsimp only; rw [h3, if_pos rfl]
theorem bud_1 {ds : List Int} {s0 s1 s2 : SS} {v1 v2 : Int} (h1 : nextL ds s0 60 = (v1, s1)) (h2 : nextL ds s1 16 = (v2, s2)) (h3 : ¬ v2 = 0) : budL ds s0 = (100 + v1 * 16, s2) := by
  unfold budL; rw [h1]; dsimp only; rw [h2]; dsimp only; rw [if_neg h3]
theorem bel_mut {w W W' : World} {b H : Nat} (h : Below w.heap.size w W ∧ H ≤ W.heap.size) (hM : Mut b W W') (hb : w.heap.size ≤ b) : Below w.heap.size w W' ∧ H ≤ W'.heap.size := ⟨h.1.trans ⟨hM.os, hM.tape, hM.output, hM.size, fun k hk => hM.block k (Nat.lt_of_lt_of_le hk h.1.size) (by omega)⟩, Nat.le_trans h.2 hM.size⟩

theorem DW.xge {w wr : World} {H b : Nat} {sv : Value} {ds : List Int} {s : SS} {size : Int} {ops : List P3} {vO : Value} (h : DW w wr H b sv ds s size ops vO) : H ≤ wr.heap.size := h.sz
theorem DW.xno {w wr : World} {H b : Nat} {sv : Value} {ds : List Int} {s : SS} {size : Int} {ops : List P3} {vO : Value} (h : DW w wr H b sv ds s size ops vO) : vO.ownBlock ≠ some wr.heap.size := fun e => by
  have := (h.own.lt _ e).2
  omega
theorem DW.xne {w wr : World} {H b : Nat} {sv : Value} {ds : List Int} {s : SS} {size : Int} {ops : List P3} {vO : Value} (h : DW w wr H b sv ds s size ops vO) : wr.heap.size ≠ b := by
  have := h.src.hb; have := h.sz; omega
theorem DW.setX {w wr : World} {H b : Nat} {sv : Value} {ds : List Int} {s : SS} {size : Int} {ops : List P3} {vO : Value} (h : DW w wr H b sv ds s size ops vO) {x : Nat} (hx : H ≤ x) (hd : vO.ownBlock ≠ some x) (o : Nat) (u : Value) : DW w (wr.setCell ⟨x, o, none⟩ u) H b sv ds s size ops vO :=
  ⟨h.src.below ((Below.refl H wr).setCell (p := ⟨x, o, none⟩) hx u), ownsRow_setCell_other h.own hd _, h.lo, h.hw, h.bl.setCell (p := ⟨x, o, none⟩) (Nat.le_trans h.hw hx) u, by simpa [World.setCell] using h.sz⟩
theorem three_atX {w : World} {b : Nat} {a c d : Value} (h0 : w.cell? ⟨b, 0, none⟩ = some a) (h1 : w.cell? ⟨b, 1, none⟩ = some c) (h2 : w.cell? ⟨b, 2, none⟩ = some d) (x y z : Value) :
    (((w.setCell ⟨b, 0, none⟩ x).setCell ⟨b, 1, none⟩ y).setCell ⟨b, 2, none⟩ z).cell? ⟨b, 0, none⟩ = some x ∧ (((w.setCell ⟨b, 0, none⟩ x).setCell ⟨b, 1, none⟩ y).setCell ⟨b, 2, none⟩ z).cell? ⟨b, 1, none⟩ = some y ∧ (((w.setCell ⟨b, 0, none⟩ x).setCell ⟨b, 1, none⟩ y).setCell ⟨b, 2, none⟩ z).cell? ⟨b, 2, none⟩ = some z :=
  ⟨near (by omega) (near (by omega) (World.cell?_setCell_same _ _ _ h0)), near (by omega) (World.cell?_setCell_same _ _ _ (near (by omega) h1)), World.cell?_setCell_same _ _ _ (near (by omega) (near (by omega) h2))⟩
theorem three_set34 (W : World) (p : Addr) (u : Value) (t : P3) : ∀ j x, (p3v t)[j]? = some x → ((W.setCell p u).alloc (.cells #[.int .i64 t.1, .int .i64 t.2.1, .int .i64 t.2.2] 34)).cell? ((⟨W.heap.size, 0, none⟩ : Addr).add j) = some x := by
  have e : (W.setCell p u).heap.size = W.heap.size := by simp [World.setCell]
  rw [← e]; exact three_new34 _ _
theorem three_set34c (W : World) (p q r : Addr) (u v x : Value) (t : P3) : ∀ j y, (p3v t)[j]? = some y → ((((W.setCell p u).setCell q v).setCell r x).alloc (.cells #[.int .i64 t.1, .int .i64 t.2.1, .int .i64 t.2.2] 34)).cell? ((⟨W.heap.size, 0, none⟩ : Addr).add j) = some y := by
  have e : (((W.setCell p u).setCell q v).setCell r x).heap.size = W.heap.size := by simp [World.setCell]
  rw [← e]; exact three_new34 _ _
theorem three_al34 (W : World) (X : Array Value) (t0 : TypeId) (t : P3) : ∀ j x, (p3v t)[j]? = some x → ((W.alloc (.cells X t0)).alloc (.cells #[.int .i64 t.1, .int .i64 t.2.1, .int .i64 t.2.2] 34)).cell? ((⟨W.heap.size + 1, 0, none⟩ : Addr).add j) = some x := by
  have e : (W.alloc (.cells X t0)).heap.size = W.heap.size + 1 := by simp
  rw [← e]; exact three_new34 _ _
def slen : Value → Nat
  | .slice _ n _ => n
  | _ => 0
theorem dOne_a {ds : List Int} {s s6 s7 s8 : SS} {v6 v7 v8 : Int} (h6 : nextL ds s 20 = (v6, s6)) (h7 : nextL ds s6 130 = (v7, s7)) (h : v6 < 8) (h8 : nextL ds s7 7 = (v8, s8)) : drawOne ds s = ((2, 0, v8), s8) := by
  unfold drawOne; rw [h6]; dsimp only; rw [h7]; dsimp only; rw [h8, if_pos h]
theorem dOne_b {ds : List Int} {s s6 s7 s8 : SS} {v7 v8 : Int} (h6 : nextL ds s 20 = (8, s6)) (h7 : nextL ds s6 130 = (v7, s7)) (h8 : nextL ds s7 2 = (v8, s8)) : drawOne ds s = ((1, 65536 + v8, 0), s8) := by
  unfold drawOne; rw [h6]; dsimp only; rw [h7]; dsimp only; rw [h8, if_neg (by omega), if_pos rfl]
theorem dOne_c {ds : List Int} {s s6 s7 s8 : SS} {v7 v8 : Int} (h6 : nextL ds s 20 = (9, s6)) (h7 : nextL ds s6 130 = (v7, s7)) (h8 : nextL ds s7 2 = (v8, s8)) : drawOne ds s = ((v8 * 3, v7, 0), s8) := by
  unfold drawOne; rw [h6]; dsimp only; rw [h7]; dsimp only; rw [h8, if_neg (by omega), if_neg (by omega), if_pos rfl]
theorem dOne_d {ds : List Int} {s s6 s7 : SS} {v7 : Int} (h6 : nextL ds s 20 = (10, s6)) (h7 : nextL ds s6 130 = (v7, s7)) : drawOne ds s = ((1, -1, 0), s7) := by
  unfold drawOne; rw [h6]; dsimp only; rw [h7]; dsimp only; rw [if_neg (by omega), if_neg (by omega), if_neg (by omega), if_pos rfl]
theorem dOne_e {ds : List Int} {s s6 s7 : SS} {v6 v7 : Int} (h6 : nextL ds s 20 = (v6, s6)) (h7 : nextL ds s6 130 = (v7, s7)) (h : 10 < v6) : drawOne ds s = ((1, v7, 0), s7) := by
  unfold drawOne; rw [h6]; dsimp only; rw [h7]; dsimp only; rw [if_neg (by omega), if_neg (by omega), if_neg (by omega), if_neg (by omega)]

set_option maxRecDepth 100000 in
set_option maxHeartbeats 2000000 in
theorem drawPool_any {w : World} {v : Value} {cs : List Int} (h : Code w v cs) :
    Calls Try.prog 9 #[v] w fun e w' => DrawPOk w (drawP (cs.take 4000) (0, mixL cs.length (cs.take 4000)) (sizeL (cs.take 4000))) e w' := by
  obtain ⟨i34, hi34, hy0, hy1, hy2⟩ := info_parts info34
  have hs := hide (source_any h)
  obtain ⟨sa, cap, rfl, hh⟩ := h
  clear hh
  generalize hDP : drawP (cs.take 4000) (0, mixL cs.length (cs.take 4000)) (sizeL (cs.take 4000)) = DP
  have HDP := hide hDP
  clear hDP
  go_enter Try.func9, Try.ntmps9
  go_wp2_with fail
  refine hs.out.mono ?_
  rintro e w1 ⟨b, sv, rfl, hS, hb, hB⟩
  have HS := hide hS.h
  have HB : Hid (Below w.heap.size w w1 ∧ w1.heap.size ≤ w1.heap.size) := ⟨hB, Nat.le_refl _⟩
  have hsz := hS.size0
  have hsz2 := hS.size1
  clear hS hB hs
  generalize mixL cs.length (cs.take 4000) = mx at HS HDP
  generalize sizeL (cs.take 4000) = size at HS hsz hsz2 HDP
  generalize cs.take 4000 = ds at HS HDP
  generalize hw1 : w1.heap.size = H at HS HB
  have HB : Hid (Below w.heap.size w w1 ∧ H ≤ w1.heap.size) := ⟨HB.out.1, by rw [hw1]; exact Nat.le_refl _⟩
  clear hw1
  generalize ((0, mx) : SS) = s0 at HS HDP
  go_wp2_with fail
  have nb1 := HS.out.src.nextB (60) (by omega)
  refine (l1next_any HS.out.src (60)).mono ?_
  rintro e W1 ⟨rfl, hS, hM⟩
  have HS1 := hide (HS.out.next hS)
  have HB1 := hide (bel_mut HB.out hM hb)
  clear hS hM HS HB
  generalize hr1 : nextL ds s0 (60) = r1 at nb1 HS1
  have R1 := hide hr1
  clear hr1
  obtain ⟨v1, s1⟩ := r1
  dsimp only at nb1 HS1
  go_wp2_with fail
  have nb2 := HS1.out.src.nextB (16) (by omega)
  refine (l1next_any HS1.out.src (16)).mono ?_
  rintro e W2 ⟨rfl, hS, hM⟩
  have HS2 := hide (HS1.out.next hS)
  have HB2 := hide (bel_mut HB1.out hM hb)
  clear hS hM HS1 HB1
  generalize hr2 : nextL ds s1 (16) = r2 at nb2 HS2
  have R2 := hide hr2
  clear hr2
  obtain ⟨v2, s2⟩ := r2
  dsimp only at nb2 HS2
  rcases Classical.em (v2 = 0) with hv2 | hv2
  · subst hv2
    go_wp2_with fail
    have nb3 := HS2.out.src.nextB (2) (by omega)
    refine (l1next_any HS2.out.src (2)).mono ?_
    rintro e W3 ⟨rfl, hS, hM⟩
    have HS3 := hide (HS2.out.next hS)
    have HB3 := hide (bel_mut HB2.out hM hb)
    clear hS hM
    generalize hr3 : nextL ds s2 (2) = r3 at nb3 HS3
    have R3 := hide hr3
    clear hr3
    obtain ⟨v3, s3⟩ := r3
    dsimp only at nb3 HS3
    have HBu := hide (bud_0 R1.out R2.out R3.out)
    have hq : v3 * 9223372036854775807 ≤ 9223372036854775807 := by omega
    have c3 := (((Ext.refl W3).alloc #[] 34)).box HS3.out.src.c3
    have HH := hide (HS3.out.ext ((Ext.refl W3).alloc #[] 34) HB3.out.2)
    have HBB : Hid (Bel w (W3.alloc (.cells #[] 34)) ∧ H ≤ (W3.alloc (.cells #[] 34)).heap.size ∧ (W3.alloc (.cells #[] 34)).ownsRow H 34 3 (.slice (some ⟨W3.heap.size, 0, none⟩) 0 0) 0 (p3cells [])) := ⟨Bel.tr HB3.out.1 ((Ext.refl W3).alloc #[] 34).bl, Nat.le_trans HB3.out.2 (Below.size ((Ext.refl W3).alloc #[] 34).bl), World.ownsRow_made (base := H) (e := 34) (size := 3) W3 #[] 0 HB3.out.2 (by unfold maxLen; omega) rfl⟩
    go_wp2_with fail
    clear hq c3
    generalize v3 * 9223372036854775807 - 1 = bud at HBu ⊢
    generalize W3.alloc (.cells #[] 34) = W3' at HH HBB ⊢
    clear R1 R2
    have nb4 := HH.out.src.nextB (8 + 6 * size) (by omega)
    refine (l1next_any HH.out.src (8 + 6 * size)).mono ?_
    rintro e W4 ⟨rfl, hS, hM⟩
    have HD4 : Hid (DW w W4 H b sv ds (nextL ds s3 (8 + 6 * size)).2 size [] _) := DW.next ⟨HH.out, HBB.out.2.2, hb, Nat.le_trans hb (Nat.le_of_lt HH.out.hb), HBB.out.1, HBB.out.2.1⟩ hS hM
    clear hS hM HH HBB
    generalize hr4 : nextL ds s3 (8 + 6 * size) = r4 at nb4 HD4
    have R4 := hide hr4
    clear hr4
    obtain ⟨v4, s4⟩ := r4
    dsimp only at nb4 HD4
    obtain ⟨n, hn⟩ : ∃ n : Nat, 2 + v4 = (n : Int) := ⟨(2 + v4).toNat, by omega⟩
    have hn52 : n ≤ 60 := by omega
    go_wp2_with fail
    have Hn := hide hn
    clear hn nb4
    go_loopw [6, 7] (fun o i wr => DRel w H b sv ds s4 size n o i wr) (fun o i _ => (intOf i).toNat)
    case atStart => exact ⟨0, _, _, by simp, by omega, rfl, HD4.out⟩
    case round =>
      obtain ⟨k, sa', c, rfl, hk, rfl, hW⟩ := hrel
      have HW := hide hW
      clear hW HD4
      by_cases hlt : k < n
      · have hpos : (0 : Int) < (n : Int) - k := by omega
        obtain ⟨T, hT⟩ : ∃ T, opsL ds s4 k = T := ⟨_, rfl⟩
        have hsucc : Hid (opsL ds s4 (k + 1) = (T.1 ++ [(drawOne ds T.2).1], (drawOne ds T.2).2)) := by show opsL ds s4 (k + 1) = _; rw [← hT]; rfl
        have hlen := opsL_len ds s4 k
        rw [hT] at HW hlen
        obtain ⟨ops, s5⟩ := T
        dsimp only at HW hsucc hlen
        subst hlen
        clear hT
        have nb6 := HW.out.src.src.nextB 20 (by omega)
        go_wp2_with fail
        refine (l1next_any HW.out.src.src 20).mono ?_
        rintro e W6 ⟨rfl, hS, hM⟩
        have HD6 := hide (HW.out.next hS hM)
        clear hS hM HW
        generalize hr6 : nextL ds s5 20 = r6 at nb6 HD6
        have R6 := hide hr6
        clear hr6
        obtain ⟨v6, s6⟩ := r6
        dsimp only at nb6 HD6
        have nb7 := HD6.out.src.src.nextB 130 (by omega)
        go_wp2_with fail
        refine (l1next_any HD6.out.src.src 130).mono ?_
        rintro e W7 ⟨rfl, hS, hM⟩
        have HD7 := hide (HD6.out.next hS hM)
        clear hS hM HD6
        generalize hr7 : nextL ds s6 130 = r7 at nb7 HD7
        have R7 := hide hr7
        clear hr7
        obtain ⟨v7, s7⟩ := r7
        dsimp only at nb7 HD7
        have hM63 : ops.length + 1 ≤ maxLen := by unfold maxLen; omega
        have hM8 : (ops.length + 1) * 24 ≤ 140737488355328 := by omega
        have HD7x := hide (HD7.out.ext ((Ext.refl W7).alloc #[.int .i64 1, .int .i64 v7, .int .i64 0] 34))
        have hxb := HD7.out.xne
        have xn := fun j => new_cell W7 #[.int .i64 1, .int .i64 v7, .int .i64 0] 34 W7.heap.size rfl j
        have xf := fun o => ((Ext.refl W7).alloc #[.int .i64 1, .int .i64 v7, .int .i64 0] 34).unfrozen (b := W7.heap.size) (Nat.le_refl _) o
        by_cases h8 : v6 < 8
        · have e8 : (v6 == 8) = false := by simp; omega
          have e9 : (v6 == 9) = false := by simp; omega
          have e10 : (v6 == 10) = false := by simp; omega
          have nb8 := HD7x.out.src.src.nextB 7 (by omega)
          go_wp2_with fail
          refine (l1next_any HD7x.out.src.src 7).mono ?_
          rintro e W8 ⟨rfl, hS, hM⟩
          have x0 : W8.cell? ⟨W7.heap.size, 0, none⟩ = some (.int .i64 1) := hM.box hxb (xn 0)
          have x1 : W8.cell? ⟨W7.heap.size, 1, none⟩ = some (.int .i64 v7) := hM.box hxb (xn 1)
          have x2 : W8.cell? ⟨W7.heap.size, 2, none⟩ = some (.int .i64 0) := hM.box hxb (xn 2)
          have xfz := fun o => (hM.fz ⟨W7.heap.size, o, none⟩).trans (xf o)
          have HD8 := hide (HD7x.out.next hS hM)
          clear hS hM
          generalize hr8 : nextL ds s7 7 = r8 at nb8 HD8
          have R8 := hide hr8
          clear hr8
          obtain ⟨v8, s8⟩ := r8
          dsimp only at nb8 HD8
          have HT := hide (dOne_a R6.out R7.out h8 R8.out)
          have HDx := hide ((((HD8.out.setX HD7.out.xge HD7.out.xno 0 (.int .i64 2)).setX HD7.out.xge HD7.out.xno 1 (.int .i64 0)).setX HD7.out.xge HD7.out.xno 2 (.int .i64 v8)))
          obtain ⟨y0, y1, y2⟩ := three_atX x0 x1 x2 (.int .i64 2) (.int .i64 0) (.int .i64 v8)
          clear HD7x HD7 HD8
          go_wp2_with (at_builtin; (refine wpList_append_own_at _ rfl _ _ 25 rfl H 34 i34 (.agg #[.int .i64 0, .int .i64 0, .int .i64 0]) 3 24 Try.underlying25 hi34 hy0 hy1 hy2 rfl (by decide) _ _ _ rfl (HDx.out.own.alloc _) ⟨W8.heap.size, 0, none⟩ 1 1 (p3v (2, 0, v8)) rfl rfl (three_set34c _ _ _ _ _ _ _ (2, 0, v8)) (p3v_one _) hM63 hM8 (HDx.out.szP _ _) ?_); intro v9 w9 hown9 hgrow9 hnil9 hat9; obtain ⟨s9, c9, rfl⟩ := own_form2 hown9; have HSt := hide (HDx.out.push (2, 0, v8) hgrow9 hown9); clear hown9 hgrow9 hnil9 hat9)
          go_roundw
          · exact ⟨ops.length + 1, _, _, by congr 1; push_cast; omega, by omega, rfl, by rw [hsucc.out, HT.out]; exact HSt.out⟩
          · simp [intOf]; omega
        by_cases h8b : v6 = 8
        · subst h8b
          have nb8 := HD7x.out.src.src.nextB 2 (by omega)
          go_wp2_with fail
          refine (l1next_any HD7x.out.src.src 2).mono ?_
          rintro e W8 ⟨rfl, hS, hM⟩
          have x0 : W8.cell? ⟨W7.heap.size, 0, none⟩ = some (.int .i64 1) := hM.box hxb (xn 0)
          have x1 : W8.cell? ⟨W7.heap.size, 1, none⟩ = some (.int .i64 v7) := hM.box hxb (xn 1)
          have x2 : W8.cell? ⟨W7.heap.size, 2, none⟩ = some (.int .i64 0) := hM.box hxb (xn 2)
          have xfz := fun o => (hM.fz ⟨W7.heap.size, o, none⟩).trans (xf o)
          have HD8 := hide (HD7x.out.next hS hM)
          clear hS hM
          generalize hr8 : nextL ds s7 2 = r8 at nb8 HD8
          have R8 := hide hr8
          clear hr8
          obtain ⟨v8, s8⟩ := r8
          dsimp only at nb8 HD8
          have HT := hide (dOne_b R6.out R7.out R8.out)
          have HDx := hide (HD8.out.setX HD7.out.xge HD7.out.xno 1 (.int .i64 (65536 + v8)))
          have y0 : (W8.setCell ⟨W7.heap.size, 1, none⟩ (.int .i64 (65536 + v8))).cell? ⟨W7.heap.size, 0, none⟩ = _ := near (by omega) x0
          have y1 : (W8.setCell ⟨W7.heap.size, 1, none⟩ (.int .i64 (65536 + v8))).cell? ⟨W7.heap.size, 1, none⟩ = _ := World.cell?_setCell_same _ _ _ x1
          have y2 : (W8.setCell ⟨W7.heap.size, 1, none⟩ (.int .i64 (65536 + v8))).cell? ⟨W7.heap.size, 2, none⟩ = _ := near (by omega) x2
          clear HD7x HD7 HD8
          go_wp2_with (at_builtin; (refine wpList_append_own_at _ rfl _ _ 25 rfl H 34 i34 (.agg #[.int .i64 0, .int .i64 0, .int .i64 0]) 3 24 Try.underlying25 hi34 hy0 hy1 hy2 rfl (by decide) _ _ _ rfl (HDx.out.own.alloc _) ⟨W8.heap.size, 0, none⟩ 1 1 (p3v (1, 65536 + v8, 0)) rfl rfl (three_set34 _ _ _ (1, 65536 + v8, 0)) (p3v_one _) hM63 hM8 (HDx.out.szP _ _) ?_); intro v9 w9 hown9 hgrow9 hnil9 hat9; obtain ⟨s9, c9, rfl⟩ := own_form2 hown9; have HSt := hide (HDx.out.push (1, 65536 + v8, 0) hgrow9 hown9); clear hown9 hgrow9 hnil9 hat9)
          go_roundw
          · exact ⟨ops.length + 1, _, _, by congr 1; push_cast; omega, by omega, rfl, by rw [hsucc.out, HT.out]; exact HSt.out⟩
          · simp [intOf]; omega
        by_cases h9 : v6 = 9
        · subst h9
          have nb8 := HD7x.out.src.src.nextB 2 (by omega)
          go_wp2_with fail
          refine (l1next_any HD7x.out.src.src 2).mono ?_
          rintro e W8 ⟨rfl, hS, hM⟩
          have x0 : W8.cell? ⟨W7.heap.size, 0, none⟩ = some (.int .i64 1) := hM.box hxb (xn 0)
          have x1 : W8.cell? ⟨W7.heap.size, 1, none⟩ = some (.int .i64 v7) := hM.box hxb (xn 1)
          have x2 : W8.cell? ⟨W7.heap.size, 2, none⟩ = some (.int .i64 0) := hM.box hxb (xn 2)
          have xfz := fun o => (hM.fz ⟨W7.heap.size, o, none⟩).trans (xf o)
          have HD8 := hide (HD7x.out.next hS hM)
          clear hS hM
          generalize hr8 : nextL ds s7 2 = r8 at nb8 HD8
          have R8 := hide hr8
          clear hr8
          obtain ⟨v8, s8⟩ := r8
          dsimp only at nb8 HD8
          have HT := hide (dOne_c R6.out R7.out R8.out)
          have HDx := hide (HD8.out.setX HD7.out.xge HD7.out.xno 0 (.int .i64 (v8 * 3)))
          have y0 : (W8.setCell ⟨W7.heap.size, 0, none⟩ (.int .i64 (v8 * 3))).cell? ⟨W7.heap.size, 0, none⟩ = _ := World.cell?_setCell_same _ _ _ x0
          have y1 : (W8.setCell ⟨W7.heap.size, 0, none⟩ (.int .i64 (v8 * 3))).cell? ⟨W7.heap.size, 1, none⟩ = _ := near (by omega) x1
          have y2 : (W8.setCell ⟨W7.heap.size, 0, none⟩ (.int .i64 (v8 * 3))).cell? ⟨W7.heap.size, 2, none⟩ = _ := near (by omega) x2
          clear HD7x HD7 HD8
          go_wp2_with (at_builtin; (refine wpList_append_own_at _ rfl _ _ 25 rfl H 34 i34 (.agg #[.int .i64 0, .int .i64 0, .int .i64 0]) 3 24 Try.underlying25 hi34 hy0 hy1 hy2 rfl (by decide) _ _ _ rfl (HDx.out.own.alloc _) ⟨W8.heap.size, 0, none⟩ 1 1 (p3v (v8 * 3, v7, 0)) rfl rfl (three_set34 _ _ _ (v8 * 3, v7, 0)) (p3v_one _) hM63 hM8 (HDx.out.szP _ _) ?_); intro v9 w9 hown9 hgrow9 hnil9 hat9; obtain ⟨s9, c9, rfl⟩ := own_form2 hown9; have HSt := hide (HDx.out.push (v8 * 3, v7, 0) hgrow9 hown9); clear hown9 hgrow9 hnil9 hat9)
          go_roundw
          · exact ⟨ops.length + 1, _, _, by congr 1; push_cast; omega, by omega, rfl, by rw [hsucc.out, HT.out]; exact HSt.out⟩
          · simp [intOf]; omega
        by_cases h10 : v6 = 10
        · subst h10
          have HT := hide (dOne_d R6.out R7.out)
          have HDx := hide (HD7.out.ext ((Ext.refl W7).alloc #[.int .i64 1, .int .i64 (-1), .int .i64 0] 34))
          clear HD7x HD7
          go_wp2_with (at_builtin; (refine wpList_append_own_at _ rfl _ _ 25 rfl H 34 i34 (.agg #[.int .i64 0, .int .i64 0, .int .i64 0]) 3 24 Try.underlying25 hi34 hy0 hy1 hy2 rfl (by decide) _ _ _ rfl (HDx.out.own.alloc _) ⟨W7.heap.size + 1, 0, none⟩ 1 1 (p3v (1, -1, 0)) rfl rfl (three_al34 _ _ _ (1, -1, 0)) (p3v_one _) hM63 hM8 (HDx.out.szP _ _) ?_); intro v9 w9 hown9 hgrow9 hnil9 hat9; obtain ⟨s9, c9, rfl⟩ := own_form2 hown9; have HSt := hide (HDx.out.push (1, -1, 0) hgrow9 hown9); clear hown9 hgrow9 hnil9 hat9)
          go_roundw
          · exact ⟨ops.length + 1, _, _, by congr 1; push_cast; omega, by omega, rfl, by rw [hsucc.out, HT.out]; exact HSt.out⟩
          · simp [intOf]; omega
        have e8 : (v6 == 8) = false := by simp; omega
        have e9 : (v6 == 9) = false := by simp; omega
        have e10 : (v6 == 10) = false := by simp; omega
        have HT := hide (dOne_e R6.out R7.out (by omega))
        clear HD7
        go_wp2_with (at_builtin; (refine wpList_append_own_at _ rfl _ _ 25 rfl H 34 i34 (.agg #[.int .i64 0, .int .i64 0, .int .i64 0]) 3 24 Try.underlying25 hi34 hy0 hy1 hy2 rfl (by decide) _ _ _ rfl (HD7x.out.own.alloc _) ⟨W7.heap.size + 1, 0, none⟩ 1 1 (p3v (1, v7, 0)) rfl rfl (three_al34 _ _ _ (1, v7, 0)) (p3v_one _) hM63 hM8 (HD7x.out.szP _ _) ?_); intro v9 w9 hown9 hgrow9 hnil9 hat9; obtain ⟨s9, c9, rfl⟩ := own_form2 hown9; have HSt := hide (HD7x.out.push (1, v7, 0) hgrow9 hown9); clear hown9 hgrow9 hnil9 hat9)
        go_roundw
        · exact ⟨ops.length + 1, _, _, by congr 1; push_cast; omega, by omega, rfl, by rw [hsucc.out, HT.out]; exact HSt.out⟩
        · simp [intOf]; omega
      · have hkn : k = n := by omega
        subst hkn
        have hle : ¬ (0 : Int) < (k : Int) - k := by omega
        have hml := opsL_len ds s4 k
        have HMid : Hid (midP ds s0 size = opsL ds s4 k) := by
          show midP ds s0 size = _
          unfold midP cntP
          rw [HBu.out]
          dsimp only
          rw [R4.out]
          dsimp only
          rw [Hn.out, Int.toNat_natCast]
        generalize opsL ds s4 k = T at HW hml HMid
        obtain ⟨ops, s5⟩ := T
        dsimp only at HW hml
        subst hml
        have nb6 := HW.out.src.src.nextB 60 (by omega)
        go_wp2_with fail
        refine (l1next_any HW.out.src.src 60).mono ?_
        rintro e W6 ⟨rfl, hS, hM⟩
        have HD6 := hide (HW.out.next hS hM)
        clear hS hM HW
        generalize hr6 : nextL ds s5 60 = r6 at nb6 HD6
        have R6 := hide hr6
        clear hr6
        obtain ⟨v6, s6⟩ := r6
        dsimp only at nb6 HD6
        by_cases h6 : v6 = 0
        · subst h6
          have nb7 := HD6.out.src.src.nextB 2 (by omega)
          go_wp2_with fail
          refine (l1next_any HD6.out.src.src 2).mono ?_
          rintro e W7 ⟨rfl, hS, hM⟩
          have HD7 := hide (HD6.out.next hS hM)
          clear hS hM HD6
          generalize hr7 : nextL ds s6 2 = r7 at nb7 HD7
          have R7 := hide hr7
          clear hr7
          obtain ⟨v7, s7⟩ := r7
          dsimp only at nb7 HD7
          obtain ⟨m, hm⟩ : ∃ m : Nat, 2000 + v7 = (m : Int) := ⟨(2000 + v7).toNat, by omega⟩
          have hm1 : 2000 ≤ m ∧ m ≤ 2001 := by omega
          have HDPe : Hid (DP = (bud, fillN ops (m - ops.length))) := by
            show DP = _
            rw [← HDP.out]
            unfold drawP
            rw [HMid.out, HBu.out]
            dsimp only
            rw [R6.out]
            dsimp only
            rw [R7.out, if_pos rfl]
            dsimp only
            rw [hm, Int.toNat_natCast]
          go_wp2_with fail
          have Hm := hide hm
          clear hm nb7
          go_loopw [6] (fun o wr => FRel w H b sv ds s7 size ops m o wr) (fun o _ => m - slen o)
          case atStart => exact ⟨0, _, _, by omega, rfl, HD7.out⟩
          case round =>
            obtain ⟨j, sb, c2, hj, rfl, hW⟩ := hrel
            have HW := hide hW
            clear hW HD7
            have hfl := fillN_len ops j
            have hM63' : ops.length + j + 1 ≤ maxLen := by unfold maxLen; omega
            have hM8' : (ops.length + j + 1) * 24 ≤ 140737488355328 := by omega
            by_cases hjm : j < m - ops.length
            · have hlt2 : ((ops.length + j : Nat) : Int) < (m : Int) := by omega
              have hown := HW.out.own
              rw [hfl] at hown
              have hnx : Hid (fillN ops (j + 1) = fillN ops j ++ [(2, 0, ((ops.length : Int) + (j : Int)) % 5)]) := by show fillN ops (j + 1) = _; rw [← Int.natCast_add]; rfl
              have Hown := hide hown
              have Hfl := hide hfl
              clear hown hfl
              go_wp2_with (at_builtin; (refine wpList_append_own_at _ rfl _ _ 25 rfl H 34 i34 (.agg #[.int .i64 0, .int .i64 0, .int .i64 0]) 3 24 Try.underlying25 hi34 hy0 hy1 hy2 rfl (by decide) _ _ _ rfl (Hown.out.alloc _) ⟨wr.heap.size, 0, none⟩ 1 1 (p3v (2, 0, ((ops.length : Int) + (j : Int)) % 5)) rfl rfl (three_new34 _ (2, 0, ((ops.length : Int) + (j : Int)) % 5)) (p3v_one _) hM63' hM8' (HW.out.szP _ _) ?_); intro v9 w9 hown9 hgrow9 hnil9 hat9; obtain ⟨s9, c9, rfl⟩ := own_form2 hown9; have HSt := hide (HW.out.push (2, 0, ((ops.length : Int) + (j : Int)) % 5) hgrow9 (by rw [Hfl.out]; exact hown9)); clear hown9 hgrow9 hnil9 hat9)
              go_roundw
              · exact ⟨j + 1, _, _, by omega, rfl, by rw [hnx.out]; exact HSt.out⟩
              · simp [slen]; omega
            · have hjj : j = m - ops.length := by omega
              have hge : ¬ ((ops.length + j : Nat) : Int) < (m : Int) := by omega
              subst hjj
              go_wp2
              refine bodyPost_ret (results_tmp2 rfl _ _ _) rfl ?_
              rw [HDPe.out]
              exact ⟨_, rfl, own_pv HW.out.own, HW.out.bl⟩
        · have e6 : (v6 == 0) = false := by simp [h6]
          have HDPe : Hid (DP = (bud, ops)) := by
            show DP = _
            rw [← HDP.out]
            unfold drawP
            rw [HMid.out, HBu.out]
            dsimp only
            rw [R6.out]
            dsimp only
            rw [if_neg h6]
          go_wp2
          refine bodyPost_ret (results_tmp2 rfl _ _ _) rfl ?_
          rw [HDPe.out]
          exact ⟨_, rfl, own_pv HD6.out.own, HD6.out.bl⟩
  · have HBu := hide (bud_1 R1.out R2.out hv2)
    have hv2b : (v2 == 0) = false := by simp [hv2]
    have c3 := (((Ext.refl W2).alloc #[] 34)).box HS2.out.src.c3
    have HH := hide (HS2.out.ext ((Ext.refl W2).alloc #[] 34) HB2.out.2)
    have HBB : Hid (Bel w (W2.alloc (.cells #[] 34)) ∧ H ≤ (W2.alloc (.cells #[] 34)).heap.size ∧ (W2.alloc (.cells #[] 34)).ownsRow H 34 3 (.slice (some ⟨W2.heap.size, 0, none⟩) 0 0) 0 (p3cells [])) := ⟨Bel.tr HB2.out.1 ((Ext.refl W2).alloc #[] 34).bl, Nat.le_trans HB2.out.2 (Below.size ((Ext.refl W2).alloc #[] 34).bl), World.ownsRow_made (base := H) (e := 34) (size := 3) W2 #[] 0 HB2.out.2 (by unfold maxLen; omega) rfl⟩
    go_wp2_with fail
    clear c3 hv2b
    generalize 100 + v1 * 16 = bud at HBu ⊢
    generalize W2.alloc (.cells #[] 34) = W3' at HH HBB ⊢
    generalize s2 = s3 at HBu HH ⊢
    clear R1 R2
    have nb4 := HH.out.src.nextB (8 + 6 * size) (by omega)
    refine (l1next_any HH.out.src (8 + 6 * size)).mono ?_
    rintro e W4 ⟨rfl, hS, hM⟩
    have HD4 : Hid (DW w W4 H b sv ds (nextL ds s3 (8 + 6 * size)).2 size [] _) := DW.next ⟨HH.out, HBB.out.2.2, hb, Nat.le_trans hb (Nat.le_of_lt HH.out.hb), HBB.out.1, HBB.out.2.1⟩ hS hM
    clear hS hM HH HBB
    generalize hr4 : nextL ds s3 (8 + 6 * size) = r4 at nb4 HD4
    have R4 := hide hr4
    clear hr4
    obtain ⟨v4, s4⟩ := r4
    dsimp only at nb4 HD4
    obtain ⟨n, hn⟩ : ∃ n : Nat, 2 + v4 = (n : Int) := ⟨(2 + v4).toNat, by omega⟩
    have hn52 : n ≤ 60 := by omega
    go_wp2_with fail
    have Hn := hide hn
    clear hn nb4
    go_loopw [6, 7] (fun o i wr => DRel w H b sv ds s4 size n o i wr) (fun o i _ => (intOf i).toNat)
    case atStart => exact ⟨0, _, _, by simp, by omega, rfl, HD4.out⟩
    case round =>
      obtain ⟨k, sa', c, rfl, hk, rfl, hW⟩ := hrel
      have HW := hide hW
      clear hW HD4
      by_cases hlt : k < n
      · have hpos : (0 : Int) < (n : Int) - k := by omega
        obtain ⟨T, hT⟩ : ∃ T, opsL ds s4 k = T := ⟨_, rfl⟩
        have hsucc : Hid (opsL ds s4 (k + 1) = (T.1 ++ [(drawOne ds T.2).1], (drawOne ds T.2).2)) := by show opsL ds s4 (k + 1) = _; rw [← hT]; rfl
        have hlen := opsL_len ds s4 k
        rw [hT] at HW hlen
        obtain ⟨ops, s5⟩ := T
        dsimp only at HW hsucc hlen
        subst hlen
        clear hT
        have nb6 := HW.out.src.src.nextB 20 (by omega)
        go_wp2_with fail
        refine (l1next_any HW.out.src.src 20).mono ?_
        rintro e W6 ⟨rfl, hS, hM⟩
        have HD6 := hide (HW.out.next hS hM)
        clear hS hM HW
        generalize hr6 : nextL ds s5 20 = r6 at nb6 HD6
        have R6 := hide hr6
        clear hr6
        obtain ⟨v6, s6⟩ := r6
        dsimp only at nb6 HD6
        have nb7 := HD6.out.src.src.nextB 130 (by omega)
        go_wp2_with fail
        refine (l1next_any HD6.out.src.src 130).mono ?_
        rintro e W7 ⟨rfl, hS, hM⟩
        have HD7 := hide (HD6.out.next hS hM)
        clear hS hM HD6
        generalize hr7 : nextL ds s6 130 = r7 at nb7 HD7
        have R7 := hide hr7
        clear hr7
        obtain ⟨v7, s7⟩ := r7
        dsimp only at nb7 HD7
        have hM63 : ops.length + 1 ≤ maxLen := by unfold maxLen; omega
        have hM8 : (ops.length + 1) * 24 ≤ 140737488355328 := by omega
        have HD7x := hide (HD7.out.ext ((Ext.refl W7).alloc #[.int .i64 1, .int .i64 v7, .int .i64 0] 34))
        have hxb := HD7.out.xne
        have xn := fun j => new_cell W7 #[.int .i64 1, .int .i64 v7, .int .i64 0] 34 W7.heap.size rfl j
        have xf := fun o => ((Ext.refl W7).alloc #[.int .i64 1, .int .i64 v7, .int .i64 0] 34).unfrozen (b := W7.heap.size) (Nat.le_refl _) o
        by_cases h8 : v6 < 8
        · have e8 : (v6 == 8) = false := by simp; omega
          have e9 : (v6 == 9) = false := by simp; omega
          have e10 : (v6 == 10) = false := by simp; omega
          have nb8 := HD7x.out.src.src.nextB 7 (by omega)
          go_wp2_with fail
          refine (l1next_any HD7x.out.src.src 7).mono ?_
          rintro e W8 ⟨rfl, hS, hM⟩
          have x0 : W8.cell? ⟨W7.heap.size, 0, none⟩ = some (.int .i64 1) := hM.box hxb (xn 0)
          have x1 : W8.cell? ⟨W7.heap.size, 1, none⟩ = some (.int .i64 v7) := hM.box hxb (xn 1)
          have x2 : W8.cell? ⟨W7.heap.size, 2, none⟩ = some (.int .i64 0) := hM.box hxb (xn 2)
          have xfz := fun o => (hM.fz ⟨W7.heap.size, o, none⟩).trans (xf o)
          have HD8 := hide (HD7x.out.next hS hM)
          clear hS hM
          generalize hr8 : nextL ds s7 7 = r8 at nb8 HD8
          have R8 := hide hr8
          clear hr8
          obtain ⟨v8, s8⟩ := r8
          dsimp only at nb8 HD8
          have HT := hide (dOne_a R6.out R7.out h8 R8.out)
          have HDx := hide ((((HD8.out.setX HD7.out.xge HD7.out.xno 0 (.int .i64 2)).setX HD7.out.xge HD7.out.xno 1 (.int .i64 0)).setX HD7.out.xge HD7.out.xno 2 (.int .i64 v8)))
          obtain ⟨y0, y1, y2⟩ := three_atX x0 x1 x2 (.int .i64 2) (.int .i64 0) (.int .i64 v8)
          clear HD7x HD7 HD8
          go_wp2_with (at_builtin; (refine wpList_append_own_at _ rfl _ _ 25 rfl H 34 i34 (.agg #[.int .i64 0, .int .i64 0, .int .i64 0]) 3 24 Try.underlying25 hi34 hy0 hy1 hy2 rfl (by decide) _ _ _ rfl (HDx.out.own.alloc _) ⟨W8.heap.size, 0, none⟩ 1 1 (p3v (2, 0, v8)) rfl rfl (three_set34c _ _ _ _ _ _ _ (2, 0, v8)) (p3v_one _) hM63 hM8 (HDx.out.szP _ _) ?_); intro v9 w9 hown9 hgrow9 hnil9 hat9; obtain ⟨s9, c9, rfl⟩ := own_form2 hown9; have HSt := hide (HDx.out.push (2, 0, v8) hgrow9 hown9); clear hown9 hgrow9 hnil9 hat9)
          go_roundw
          · exact ⟨ops.length + 1, _, _, by congr 1; push_cast; omega, by omega, rfl, by rw [hsucc.out, HT.out]; exact HSt.out⟩
          · simp [intOf]; omega
        by_cases h8b : v6 = 8
        · subst h8b
          have nb8 := HD7x.out.src.src.nextB 2 (by omega)
          go_wp2_with fail
          refine (l1next_any HD7x.out.src.src 2).mono ?_
          rintro e W8 ⟨rfl, hS, hM⟩
          have x0 : W8.cell? ⟨W7.heap.size, 0, none⟩ = some (.int .i64 1) := hM.box hxb (xn 0)
          have x1 : W8.cell? ⟨W7.heap.size, 1, none⟩ = some (.int .i64 v7) := hM.box hxb (xn 1)
          have x2 : W8.cell? ⟨W7.heap.size, 2, none⟩ = some (.int .i64 0) := hM.box hxb (xn 2)
          have xfz := fun o => (hM.fz ⟨W7.heap.size, o, none⟩).trans (xf o)
          have HD8 := hide (HD7x.out.next hS hM)
          clear hS hM
          generalize hr8 : nextL ds s7 2 = r8 at nb8 HD8
          have R8 := hide hr8
          clear hr8
          obtain ⟨v8, s8⟩ := r8
          dsimp only at nb8 HD8
          have HT := hide (dOne_b R6.out R7.out R8.out)
          have HDx := hide (HD8.out.setX HD7.out.xge HD7.out.xno 1 (.int .i64 (65536 + v8)))
          have y0 : (W8.setCell ⟨W7.heap.size, 1, none⟩ (.int .i64 (65536 + v8))).cell? ⟨W7.heap.size, 0, none⟩ = _ := near (by omega) x0
          have y1 : (W8.setCell ⟨W7.heap.size, 1, none⟩ (.int .i64 (65536 + v8))).cell? ⟨W7.heap.size, 1, none⟩ = _ := World.cell?_setCell_same _ _ _ x1
          have y2 : (W8.setCell ⟨W7.heap.size, 1, none⟩ (.int .i64 (65536 + v8))).cell? ⟨W7.heap.size, 2, none⟩ = _ := near (by omega) x2
          clear HD7x HD7 HD8
          go_wp2_with (at_builtin; (refine wpList_append_own_at _ rfl _ _ 25 rfl H 34 i34 (.agg #[.int .i64 0, .int .i64 0, .int .i64 0]) 3 24 Try.underlying25 hi34 hy0 hy1 hy2 rfl (by decide) _ _ _ rfl (HDx.out.own.alloc _) ⟨W8.heap.size, 0, none⟩ 1 1 (p3v (1, 65536 + v8, 0)) rfl rfl (three_set34 _ _ _ (1, 65536 + v8, 0)) (p3v_one _) hM63 hM8 (HDx.out.szP _ _) ?_); intro v9 w9 hown9 hgrow9 hnil9 hat9; obtain ⟨s9, c9, rfl⟩ := own_form2 hown9; have HSt := hide (HDx.out.push (1, 65536 + v8, 0) hgrow9 hown9); clear hown9 hgrow9 hnil9 hat9)
          go_roundw
          · exact ⟨ops.length + 1, _, _, by congr 1; push_cast; omega, by omega, rfl, by rw [hsucc.out, HT.out]; exact HSt.out⟩
          · simp [intOf]; omega
        by_cases h9 : v6 = 9
        · subst h9
          have nb8 := HD7x.out.src.src.nextB 2 (by omega)
          go_wp2_with fail
          refine (l1next_any HD7x.out.src.src 2).mono ?_
          rintro e W8 ⟨rfl, hS, hM⟩
          have x0 : W8.cell? ⟨W7.heap.size, 0, none⟩ = some (.int .i64 1) := hM.box hxb (xn 0)
          have x1 : W8.cell? ⟨W7.heap.size, 1, none⟩ = some (.int .i64 v7) := hM.box hxb (xn 1)
          have x2 : W8.cell? ⟨W7.heap.size, 2, none⟩ = some (.int .i64 0) := hM.box hxb (xn 2)
          have xfz := fun o => (hM.fz ⟨W7.heap.size, o, none⟩).trans (xf o)
          have HD8 := hide (HD7x.out.next hS hM)
          clear hS hM
          generalize hr8 : nextL ds s7 2 = r8 at nb8 HD8
          have R8 := hide hr8
          clear hr8
          obtain ⟨v8, s8⟩ := r8
          dsimp only at nb8 HD8
          have HT := hide (dOne_c R6.out R7.out R8.out)
          have HDx := hide (HD8.out.setX HD7.out.xge HD7.out.xno 0 (.int .i64 (v8 * 3)))
          have y0 : (W8.setCell ⟨W7.heap.size, 0, none⟩ (.int .i64 (v8 * 3))).cell? ⟨W7.heap.size, 0, none⟩ = _ := World.cell?_setCell_same _ _ _ x0
          have y1 : (W8.setCell ⟨W7.heap.size, 0, none⟩ (.int .i64 (v8 * 3))).cell? ⟨W7.heap.size, 1, none⟩ = _ := near (by omega) x1
          have y2 : (W8.setCell ⟨W7.heap.size, 0, none⟩ (.int .i64 (v8 * 3))).cell? ⟨W7.heap.size, 2, none⟩ = _ := near (by omega) x2
          clear HD7x HD7 HD8
          go_wp2_with (at_builtin; (refine wpList_append_own_at _ rfl _ _ 25 rfl H 34 i34 (.agg #[.int .i64 0, .int .i64 0, .int .i64 0]) 3 24 Try.underlying25 hi34 hy0 hy1 hy2 rfl (by decide) _ _ _ rfl (HDx.out.own.alloc _) ⟨W8.heap.size, 0, none⟩ 1 1 (p3v (v8 * 3, v7, 0)) rfl rfl (three_set34 _ _ _ (v8 * 3, v7, 0)) (p3v_one _) hM63 hM8 (HDx.out.szP _ _) ?_); intro v9 w9 hown9 hgrow9 hnil9 hat9; obtain ⟨s9, c9, rfl⟩ := own_form2 hown9; have HSt := hide (HDx.out.push (v8 * 3, v7, 0) hgrow9 hown9); clear hown9 hgrow9 hnil9 hat9)
          go_roundw
          · exact ⟨ops.length + 1, _, _, by congr 1; push_cast; omega, by omega, rfl, by rw [hsucc.out, HT.out]; exact HSt.out⟩
          · simp [intOf]; omega
        by_cases h10 : v6 = 10
        · subst h10
          have HT := hide (dOne_d R6.out R7.out)
          have HDx := hide (HD7.out.ext ((Ext.refl W7).alloc #[.int .i64 1, .int .i64 (-1), .int .i64 0] 34))
          clear HD7x HD7
          go_wp2_with (at_builtin; (refine wpList_append_own_at _ rfl _ _ 25 rfl H 34 i34 (.agg #[.int .i64 0, .int .i64 0, .int .i64 0]) 3 24 Try.underlying25 hi34 hy0 hy1 hy2 rfl (by decide) _ _ _ rfl (HDx.out.own.alloc _) ⟨W7.heap.size + 1, 0, none⟩ 1 1 (p3v (1, -1, 0)) rfl rfl (three_al34 _ _ _ (1, -1, 0)) (p3v_one _) hM63 hM8 (HDx.out.szP _ _) ?_); intro v9 w9 hown9 hgrow9 hnil9 hat9; obtain ⟨s9, c9, rfl⟩ := own_form2 hown9; have HSt := hide (HDx.out.push (1, -1, 0) hgrow9 hown9); clear hown9 hgrow9 hnil9 hat9)
          go_roundw
          · exact ⟨ops.length + 1, _, _, by congr 1; push_cast; omega, by omega, rfl, by rw [hsucc.out, HT.out]; exact HSt.out⟩
          · simp [intOf]; omega
        have e8 : (v6 == 8) = false := by simp; omega
        have e9 : (v6 == 9) = false := by simp; omega
        have e10 : (v6 == 10) = false := by simp; omega
        have HT := hide (dOne_e R6.out R7.out (by omega))
        clear HD7
        go_wp2_with (at_builtin; (refine wpList_append_own_at _ rfl _ _ 25 rfl H 34 i34 (.agg #[.int .i64 0, .int .i64 0, .int .i64 0]) 3 24 Try.underlying25 hi34 hy0 hy1 hy2 rfl (by decide) _ _ _ rfl (HD7x.out.own.alloc _) ⟨W7.heap.size + 1, 0, none⟩ 1 1 (p3v (1, v7, 0)) rfl rfl (three_al34 _ _ _ (1, v7, 0)) (p3v_one _) hM63 hM8 (HD7x.out.szP _ _) ?_); intro v9 w9 hown9 hgrow9 hnil9 hat9; obtain ⟨s9, c9, rfl⟩ := own_form2 hown9; have HSt := hide (HD7x.out.push (1, v7, 0) hgrow9 hown9); clear hown9 hgrow9 hnil9 hat9)
        go_roundw
        · exact ⟨ops.length + 1, _, _, by congr 1; push_cast; omega, by omega, rfl, by rw [hsucc.out, HT.out]; exact HSt.out⟩
        · simp [intOf]; omega
      · have hkn : k = n := by omega
        subst hkn
        have hle : ¬ (0 : Int) < (k : Int) - k := by omega
        have hml := opsL_len ds s4 k
        have HMid : Hid (midP ds s0 size = opsL ds s4 k) := by
          show midP ds s0 size = _
          unfold midP cntP
          rw [HBu.out]
          dsimp only
          rw [R4.out]
          dsimp only
          rw [Hn.out, Int.toNat_natCast]
        generalize opsL ds s4 k = T at HW hml HMid
        obtain ⟨ops, s5⟩ := T
        dsimp only at HW hml
        subst hml
        have nb6 := HW.out.src.src.nextB 60 (by omega)
        go_wp2_with fail
        refine (l1next_any HW.out.src.src 60).mono ?_
        rintro e W6 ⟨rfl, hS, hM⟩
        have HD6 := hide (HW.out.next hS hM)
        clear hS hM HW
        generalize hr6 : nextL ds s5 60 = r6 at nb6 HD6
        have R6 := hide hr6
        clear hr6
        obtain ⟨v6, s6⟩ := r6
        dsimp only at nb6 HD6
        by_cases h6 : v6 = 0
        · subst h6
          have nb7 := HD6.out.src.src.nextB 2 (by omega)
          go_wp2_with fail
          refine (l1next_any HD6.out.src.src 2).mono ?_
          rintro e W7 ⟨rfl, hS, hM⟩
          have HD7 := hide (HD6.out.next hS hM)
          clear hS hM HD6
          generalize hr7 : nextL ds s6 2 = r7 at nb7 HD7
          have R7 := hide hr7
          clear hr7
          obtain ⟨v7, s7⟩ := r7
          dsimp only at nb7 HD7
          obtain ⟨m, hm⟩ : ∃ m : Nat, 2000 + v7 = (m : Int) := ⟨(2000 + v7).toNat, by omega⟩
          have hm1 : 2000 ≤ m ∧ m ≤ 2001 := by omega
          have HDPe : Hid (DP = (bud, fillN ops (m - ops.length))) := by
            show DP = _
            rw [← HDP.out]
            unfold drawP
            rw [HMid.out, HBu.out]
            dsimp only
            rw [R6.out]
            dsimp only
            rw [R7.out, if_pos rfl]
            dsimp only
            rw [hm, Int.toNat_natCast]
          go_wp2_with fail
          have Hm := hide hm
          clear hm nb7
          go_loopw [6] (fun o wr => FRel w H b sv ds s7 size ops m o wr) (fun o _ => m - slen o)
          case atStart => exact ⟨0, _, _, by omega, rfl, HD7.out⟩
          case round =>
            obtain ⟨j, sb, c2, hj, rfl, hW⟩ := hrel
            have HW := hide hW
            clear hW HD7
            have hfl := fillN_len ops j
            have hM63' : ops.length + j + 1 ≤ maxLen := by unfold maxLen; omega
            have hM8' : (ops.length + j + 1) * 24 ≤ 140737488355328 := by omega
            by_cases hjm : j < m - ops.length
            · have hlt2 : ((ops.length + j : Nat) : Int) < (m : Int) := by omega
              have hown := HW.out.own
              rw [hfl] at hown
              have hnx : Hid (fillN ops (j + 1) = fillN ops j ++ [(2, 0, ((ops.length : Int) + (j : Int)) % 5)]) := by show fillN ops (j + 1) = _; rw [← Int.natCast_add]; rfl
              have Hown := hide hown
              have Hfl := hide hfl
              clear hown hfl
              go_wp2_with (at_builtin; (refine wpList_append_own_at _ rfl _ _ 25 rfl H 34 i34 (.agg #[.int .i64 0, .int .i64 0, .int .i64 0]) 3 24 Try.underlying25 hi34 hy0 hy1 hy2 rfl (by decide) _ _ _ rfl (Hown.out.alloc _) ⟨wr.heap.size, 0, none⟩ 1 1 (p3v (2, 0, ((ops.length : Int) + (j : Int)) % 5)) rfl rfl (three_new34 _ (2, 0, ((ops.length : Int) + (j : Int)) % 5)) (p3v_one _) hM63' hM8' (HW.out.szP _ _) ?_); intro v9 w9 hown9 hgrow9 hnil9 hat9; obtain ⟨s9, c9, rfl⟩ := own_form2 hown9; have HSt := hide (HW.out.push (2, 0, ((ops.length : Int) + (j : Int)) % 5) hgrow9 (by rw [Hfl.out]; exact hown9)); clear hown9 hgrow9 hnil9 hat9)
              go_roundw
              · exact ⟨j + 1, _, _, by omega, rfl, by rw [hnx.out]; exact HSt.out⟩
              · simp [slen]; omega
            · have hjj : j = m - ops.length := by omega
              have hge : ¬ ((ops.length + j : Nat) : Int) < (m : Int) := by omega
              subst hjj
              go_wp2
              refine bodyPost_ret (results_tmp2 rfl _ _ _) rfl ?_
              rw [HDPe.out]
              exact ⟨_, rfl, own_pv HW.out.own, HW.out.bl⟩
        · have e6 : (v6 == 0) = false := by simp [h6]
          have HDPe : Hid (DP = (bud, ops)) := by
            show DP = _
            rw [← HDP.out]
            unfold drawP
            rw [HMid.out, HBu.out]
            dsimp only
            rw [R6.out]
            dsimp only
            rw [if_neg h6]
          go_wp2
          refine bodyPost_ret (results_tmp2 rfl _ _ _) rfl ?_
          rw [HDPe.out]
          exact ⟨_, rfl, own_pv HD6.out.own, HD6.out.bl⟩
end Go.Proofs.Ytjjemnlknnnkbaa
