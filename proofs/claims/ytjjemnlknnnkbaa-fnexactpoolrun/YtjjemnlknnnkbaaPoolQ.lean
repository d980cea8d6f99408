import Derived.Test.YtjjemnlknnnkbaaPoolP
import Derived.Test.YtjjemnlknnnkbaaPoolD
namespace Go.Proofs.Ytjjemnlknnnkbaa
open Go.ChangeShapes Go.RowKit Go.ChangeMaps
set_option linter.unusedSimpArgs false
set_option linter.unusedVariables false
/-- The world of impl.PoolRun's loop. -/
structure IS (w wr : World) (P Mb n : Nat) (budget : Int) (bs : List Blk) (ts : List P3) (vO : Value) : Prop where
  p : Pl wr w.heap.size P Mb n budget bs
  own : wr.ownsRow w.heap.size 32 3 vO ts.length (p3cells ts)
  dj : vO.ownBlock ≠ some P
  bl : Bel w wr
theorem Kp.own {base P : Nat} {w w' : World} {B n : Nat} {v : Value} {xs : List Value} (h : Kp base P w w') (o : w.ownsRow B 32 3 v n xs) (hd : v.ownBlock ≠ some P) : w'.ownsRow B 32 3 v n xs := by
  refine ⟨o.1, ?_⟩
  rcases o.2 with o | ⟨g, cap, cur, rfl, h1, h2, h3⟩
  · exact Or.inl o
  · exact Or.inr ⟨g, cap, cur, rfl, h1, h.ans h2 (fun e => hd (by rw [e]; rfl)), h3⟩
theorem Kp.bel {base P : Nat} {w w' : World} (h : Kp base P w w') : Below base w w' ∨ w.heap.size < base := by
  by_cases e : w.heap.size < base
  · exact Or.inr e
  · exact Or.inl ⟨h.os, h.tape, h.output, h.size, fun k hk => h.block k (by omega) (Or.inl hk)⟩
theorem IS.ext {w wr W : World} {P Mb n : Nat} {budget : Int} {bs : List Blk} {ts : List P3} {vO : Value} (h : IS w wr P Mb n budget bs ts vO) (x : Ext wr W) : IS w W P Mb n budget bs ts vO :=
  ⟨h.p.ext x, own_below h.own x.bl (fun k hk => (h.own.lt k hk).2), h.dj, Bel.tr h.bl x.bl⟩
theorem IS.call {w wr W : World} {P Mb n n' : Nat} {budget : Int} {bs bs' : List Blk} {ts : List P3} {vO : Value} (h : IS w wr P Mb n budget bs ts vO) (k : Kp w.heap.size P wr W) (p : Pl W w.heap.size P Mb n' budget bs') : IS w W P Mb n' budget bs' ts vO :=
  ⟨p, k.own h.own h.dj, h.dj, by
    rcases k.bel with b | b
    · exact Below.trans h.bl b
    · have := Below.size h.bl; omega⟩
theorem IS.push {w wr W : World} {P Mb n : Nat} {budget : Int} {bs : List Blk} {ts : List P3} {vO vO' : Value} (h : IS w wr P Mb n budget bs ts vO) (t : P3) (hg : (wr.alloc (.cells #[.int .i64 t.1, .int .i64 t.2.1, .int .i64 t.2.2] 32)).grownBy W vO.ownBlock) (hO : W.ownsRow w.heap.size 32 3 vO' (ts.length + 1) (p3cells ts ++ p3v t))
    (hat : vO'.ownBlock = vO.ownBlock ∨ ∃ k, vO'.ownBlock = some k ∧ wr.heap.size ≤ k) : IS w W P Mb n budget bs (ts ++ [t]) vO' := by
  have hg' := grown_al hg
  have hlt := h.p.lt
  obtain ⟨zs, vB, M, hp⟩ := h.p
  refine ⟨⟨zs, vB, M, hp.row hg' fun k e => ⟨fun e1 => h.dj (by rw [e, e1]), fun _ => ?_⟩⟩, ?_, ?_, h.bl.grown hg' (Below.size h.bl) (fun j hj => (h.own.lt j hj).1)⟩
  · rcases h.own.2 with ⟨h1, _⟩ | ⟨g, cap, cur, h1, h2, h3, _⟩
    · rw [h1] at e; simp [Value.ownBlock] at e
    · rw [h1] at e
      simp [Value.ownBlock] at e
      subst e
      exact ⟨cur, 32, _, h3, by decide, by decide, by decide⟩
  · rw [List.length_append, p3cells_snoc]
    exact hO
  · rcases hat with q | ⟨k, q, hq⟩
    · rw [q]; exact h.dj
    · rw [q]; simp; omega
theorem IS.szP {w wr : World} {P Mb n : Nat} {budget : Int} {bs : List Blk} {ts : List P3} {vO : Value} (h : IS w wr P Mb n budget bs ts vO) (A : Array Value) (t : TypeId) : w.heap.size ≤ (wr.alloc (.cells A t)).heap.size := by
  have h1 : wr.heap.size ≤ (wr.alloc (.cells A t)).heap.size := Below.size ((Ext.refl wr).alloc A t).bl
  exact Nat.le_trans (Below.size h.bl) h1
def ISRel (w : World) (P Mb : Nat) (budget : Int) (ops : List P3) (o i : Value) (wr : World) : Prop :=
  ∃ (k n : Nat) (s : Option Addr) (c : Nat), i = .int .i64 k ∧ k ≤ ops.length ∧ o = .slice s k c ∧ IS w wr P Mb n budget (runP budget ops k).2 (runP budget ops k).1 o

set_option maxRecDepth 100000 in
set_option maxHeartbeats 1000000 in
theorem iPR_good {w : World} {v : Value} {ops : List P3} (h : PV w v ops) (budget : Int) (hl : ops.length ≤ 2000) :
    Calls Try.prog 11 #[.int .i64 budget, v] w fun e w' => POk w (runP budget ops ops.length).1 e w' := by
  obtain ⟨i32, hi32, hy0, hy1, hy2⟩ := info_parts info32
  have HS := hide h
  obtain ⟨sa, cap, rfl, hr⟩ := h
  clear hr
  have d1 : decide (2000 < (ops.length : Int)) = false := decide_eq_false (by omega)
  go_enter Try.func11, Try.ntmps11
  go_wp2_with fail
  clear d1
  refine (newPool_any _ budget).mono ?_
  rintro e w1 ⟨P, Mb, rfl, hP, hX⟩
  have hmk := run_make (P := Try.prog) w1 28 32 i32 (.agg #[.int .i64 0, .int .i64 0, .int .i64 0]) Try.underlying28 hi32 hy0 .i64 .i64 0 ops.length (by omega) (by omega) (by rw [hy2]; omega) (by omega)
  simp only [Int.toNat_natCast] at hmk
  have S0 : IS w (w1.alloc (.cells (madeCells #[.int .i64 0, .int .i64 0, .int .i64 0] (ops.length * 3)) 32)) P Mb 0 budget [] [] (.slice (some ⟨w1.heap.size, 0, none⟩) 0 ops.length) := by
    have hx : Ext w1 (w1.alloc (.cells (madeCells #[.int .i64 0, .int .i64 0, .int .i64 0] (ops.length * 3)) 32)) := (Ext.refl w1).alloc _ _
    refine ⟨hP.ext hx, World.ownsRow_made (base := w.heap.size) (e := 32) (size := 3) w1 _ ops.length (Below.size hX.bl) (by unfold maxLen; omega) (by simp [madeCells]), ?_, Bel.tr hX.bl hx.bl⟩
    have := hP.lt
    simp [Value.ownBlock]; omega
  have HS0 := hide S0
  clear S0 hP hX
  go_wp2_with fail
  generalize hW : w1.alloc (.cells (madeCells #[.int .i64 0, .int .i64 0, .int .i64 0] (ops.length * 3)) 32) = W at HS0 ⊢
  clear hW hmk
  go_loopw [6, 20] (fun o i wr => ISRel w P Mb budget ops o i wr) (fun o i _ => ops.length - (intOf i).toNat)
  case atStart => exact ⟨0, 0, _, _, rfl, by omega, rfl, HS0.out⟩
  case round =>
    obtain ⟨k, n, s, c, rfl, hk, rfl, hW⟩ := hrel
    have HW := hide hW
    have hok := run_ok budget ops k
    clear hW
    by_cases hlt : k < ops.length
    · obtain ⟨T, hT⟩ : ∃ T, runP budget ops k = T := ⟨_, rfl⟩
      have hsucc := hide (runP_succ budget ops k)
      have hlen := runP_len budget ops k
      rw [hT] at HW hok hsucc hlen
      obtain ⟨ts, bs⟩ := T
      simp only at HW hok hsucc hlen
      subst hlen
      have HSz := hide hok.1
      have hbl := hok.2
      clear hT hok
      obtain ⟨sa0, cap0, e0, hr⟩ := HS.out
      injection e0 with e1 _ e2
      subst e1 e2
      rcases hr with h0 | ⟨bp, off, rfl, hrow⟩
      · rw [h0] at hlt; simp at hlt
      have q0 := Bel.box HW.out.bl (hrow ts.length hlt).1
      have q1 := Bel.box HW.out.bl (hrow ts.length hlt).2.1
      have q2 := Bel.box HW.out.bl (hrow ts.length hlt).2.2
      clear hrow
      have hk0 : (0 : Int) ≤ (ts.length : Int) := Int.natCast_nonneg _
      have hk1 : (ts.length : Int) < (ops.length : Int) := by omega
      generalize hop : ops.getD ts.length p0 = op at q0 q1 q2 hsucc
      clear hop
      obtain ⟨kind, size, block⟩ := op
      simp only at q0 q1 q2
      have hM63 : ts.length + 1 ≤ maxLen := by unfold maxLen; omega
      have hM8 : (ts.length + 1) * 24 ≤ 140737488355328 := by omega
      have x0 : Ext wr (wr.alloc (.cells #[.int .i64 kind, .int .i64 size, .int .i64 block] 34)) := (Ext.refl wr).alloc _ _
      have HW1 : Hid (IS w (wr.alloc (.cells #[.int .i64 kind, .int .i64 size, .int .i64 block] 34)) P Mb n budget bs ts (.slice s ts.length c)) := HW.out.ext x0
      have Hrun := hide (run_any HW1.out.p HSz.out (by omega) size block kind)
      clear x0 HW
      generalize hX : stepP budget bs (kind, size, block) = X at hsucc Hrun
      clear hX
      obtain ⟨bs', code, num⟩ := X
      go_wp2_with fail
      refine Hrun.out.mono ?_
      rintro e w4 ⟨rfl, hP4, hK4⟩
      have HW4 := hide (HW1.out.call hK4 hP4)
      clear hP4 hK4 HW1 Hrun
      simp only
      unfold ansP at hsucc
      simp only at hsucc
      generalize liveL bs' = LV at hsucc ⊢
      go_wp2_with (at_builtin; (refine wpList_append_own_at _ rfl _ _ 28 rfl w.heap.size 32 i32 (.agg #[.int .i64 0, .int .i64 0, .int .i64 0]) 3 24 Try.underlying28 hi32 hy0 hy1 hy2 rfl (by decide) _ _ _ rfl (HW4.out.own.alloc _) ⟨w4.heap.size, 0, none⟩ 1 1 (p3v (code, num, LV)) rfl rfl (three_newP _ (code, num, LV)) (p3v_one _) hM63 hM8 (HW4.out.szP _ _) ?_); intro v3 w3 hown3 hgrow3 hnil3 hat3; obtain ⟨s3, c3, rfl⟩ := own_form2 hown3; have HSt := hide (HW4.out.push (code, num, LV) hgrow3 hown3 (hat3.imp id (fun q => ⟨_, q, by simp⟩))); clear hown3 hgrow3 hnil3 hat3)
      go_roundw
      · exact ⟨ts.length + 1, _, _, _, by go_num, by omega, rfl, by rw [hsucc.out]; exact HSt.out⟩
      · simp [intOf]; omega
    · have hkk : k = ops.length := by omega
      subst hkk
      go_wp2
      go_ret
      exact pown_of (Nat.le_refl _) HW.out.bl HW.out.own

set_option maxRecDepth 100000 in
set_option maxHeartbeats 1000000 in
theorem sPR_any {w : World} {v : Value} {ops : List P3} (h : PV w v ops) (budget : Int) (hl : ops.length ≤ 1048576) :
    Calls Try.prog 10 #[.int .i64 budget, v] w fun e w' => POk w (poolL budget ops) e w' := by
  unfold poolL
  by_cases hg : ops.length ≤ 2000
  · rw [if_pos hg]
    exact sPR_good h budget hg
  rw [if_neg hg]
  obtain ⟨sa, cap, rfl, _⟩ := h
  have hB : Hid (Bel w (w.alloc (.cells #[] 32))) := ((Ext.refl w).alloc _ _).bl
  have d1 : decide (2000 < (ops.length : Int)) = true := decide_eq_true (by omega)
  go_enter Try.func10, Try.ntmps10
  go_wp2
  go_ret
  exact ⟨_, _, rfl, Or.inl rfl, hB.out⟩

set_option maxRecDepth 100000 in
set_option maxHeartbeats 1000000 in
theorem iPR_any {w : World} {v : Value} {ops : List P3} (h : PV w v ops) (budget : Int) (hl : ops.length ≤ 1048576) :
    Calls Try.prog 11 #[.int .i64 budget, v] w fun e w' => POk w (poolL budget ops) e w' := by
  unfold poolL
  by_cases hg : ops.length ≤ 2000
  · rw [if_pos hg]
    exact iPR_good h budget hg
  rw [if_neg hg]
  obtain ⟨sa, cap, rfl, _⟩ := h
  have hB : Hid (Bel w (w.alloc (.cells #[] 32))) := ((Ext.refl w).alloc _ _).bl
  have d1 : decide (2000 < (ops.length : Int)) = true := decide_eq_true (by omega)
  go_enter Try.func11, Try.ntmps11
  go_wp2
  go_ret
  exact ⟨_, _, rfl, Or.inl rfl, hB.out⟩
end Go.Proofs.Ytjjemnlknnnkbaa
