import Derived.Test.YtjjemnlknnnkbaaPoolI
namespace Go.Proofs.Ytjjemnlknnnkbaa
open Go.ChangeShapes Go.RowKit Go.Lib Go.ChangeMaps
set_option linter.unusedSimpArgs false
set_option linter.unusedVariables false
theorem liveL_set : ∀ (bs : List Blk) (i : Nat) (b : Blk), i < bs.length → liveL (bs.set i b) = liveL bs - blv (bs.getD i b0) + blv b
  | [], i, b, h => by simp at h
  | x :: bs, 0, b, h => by simp [liveL]; omega
  | x :: bs, i + 1, b, h => by
    have := liveL_set bs i b (by simpa using h)
    simp only [List.set_cons_succ, liveL, List.getD_cons_succ, this]
    omega
theorem liveL_snoc (bs : List Blk) (b : Blk) : liveL (bs ++ [b]) = liveL bs + blv b := by rw [liveL_append]; simp [liveL]
/-- The pool between two calls. -/
def Pl (w : World) (base P Mb n : Nat) (budget : Int) (bs : List Blk) : Prop := ∃ zs vB M, PIv w base P Mb n (liveL bs) budget bs zs vB M (frees bs)
def TakeOk (w : World) (base P Mb n : Nat) (budget : Int) (bs : List Blk) (x : List Blk × Int × Int) (e : Ending) (w' : World) : Prop :=
  e = .returned (.tuple #[.int .i64 x.2.1, .int .i64 x.2.2]) ∧ Pl w' base P Mb (n + 1) budget x.1 ∧ Kp base P w w'
theorem Pl.more {w : World} {base P Mb n n' : Nat} {budget : Int} {bs : List Blk} (h : Pl w base P Mb n budget bs) (hn : n ≤ n') : Pl w base P Mb n' budget bs := by
  obtain ⟨zs, vB, M, h⟩ := h
  exact ⟨zs, vB, M, h.more hn⟩

set_option maxRecDepth 100000 in
set_option maxHeartbeats 1000000 in
theorem take_bad {w : World} {base P Mb n : Nat} {budget : Int} {bs : List Blk} (h : Pl w base P Mb n budget bs) (x : Int) (hr : roundL x < 0) :
    Calls Try.prog 41 #[.pointer (some ⟨P, 0, none⟩), .int .i64 x] w fun e w' => TakeOk w base P Mb n budget bs (bs, 16, -1) e w' := by
  have Hres : Hid (TakeOk w base P Mb n budget bs (bs, 16, -1) (.returned (.tuple #[.int .i64 16, .int .i64 (-1)])) w) := ⟨rfl, h.more (Nat.le_succ n), Kp.refl _ _ _⟩
  go_enter Try.func41, Try.ntmps41
  go_wp2_with (go_at_call 8; refine (iRound_any x _).mono ?_; rintro e w' ⟨rfl, rfl⟩)
  refine bodyPost_ret (results_tmp2 rfl _ _ _) rfl ?_
  exact Hres.out

set_option maxRecDepth 100000 in
set_option maxHeartbeats 1000000 in
theorem take_full {w : World} {base P Mb n : Nat} {budget : Int} {bs : List Blk} (h : Pl w base P Mb n budget bs) (hsz : SzOk bs) (hl : bs.length ≤ 2000) (x : Int) (hr : 16 ≤ roundL x ∧ roundL x ≤ 65536) (hb : budget < liveL bs + roundL x) :
    Calls Try.prog 41 #[.pointer (some ⟨P, 0, none⟩), .int .i64 x] w fun e w' => TakeOk w base P Mb n budget bs (bs, 17, -1) e w' := by
  obtain ⟨zs, vB, M, h⟩ := h
  have hlv := live_bd bs hsz
  have H := hide h
  have hg := grow_no w h.pb (roundL x) (by omega) (by omega) hb
  clear h
  generalize hR : roundL x = R at *
  go_enter Try.func41, Try.ntmps41
  go_wp2_with (first
    | (go_at_call 8; refine (iRound_any x _).mono ?_; rintro e w' ⟨rfl, rfl⟩; rw [hR])
    | (go_at_call 46; refine hg.mono ?_; rintro e w' ⟨rfl, hpb, hm⟩; have HP := hide hpb; have HM := hide hm; clear hpb hm))
  refine bodyPost_ret (results_tmp2 rfl _ _ _) rfl ?_
  exact ⟨rfl, ⟨zs, vB, M, (H.out.reP HM.out HP.out).more (Nat.le_succ n)⟩, Kp.mut HM.out H.out.lo.1⟩
end Go.Proofs.Ytjjemnlknnnkbaa
