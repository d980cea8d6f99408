import Derived.Test.YtjjemnlknnnkbaaPoolL
namespace Go.Proofs.Ytjjemnlknnnkbaa
open Go.ChangeShapes Go.RowKit Go.Lib Go.ChangeMaps
set_option linter.unusedSimpArgs false
set_option linter.unusedVariables false
theorem two_newZ (W : World) (t : IB) : ∀ j u, (zvv t)[j]? = some u → (W.alloc (.cells #[t.1, .bool t.2] 100)).drew.cell? ((⟨W.heap.size, 0, none⟩ : Addr).add j) = some u := fun j u hu => by
  have n1 := fun j => new_cell W #[t.1, .bool t.2] 100 W.heap.size rfl j
  rw [Addr.add_lit, Nat.zero_add]
  show (W.alloc (.cells #[t.1, .bool t.2] 100)).cell? _ = _
  rw [n1 j]
  simpa [zvv] using hu
theorem zvv_one (y m : Nat) (u : Bool) : ∀ x ∈ zvv (.slice (some ⟨y, 0, none⟩) m m, u), x.oneCell' = true := fun x hx => by
  simp [zvv] at hx
  rcases hx with rfl | rfl <;> rfl
theorem made_bytes (W : World) (m : Nat) (hm : m ≤ 65536) : ∃ A : Array Value, A.size = m ∧ (Instr.makeSlice 24 (.int .i64 m) (.int .i64 m)).run Try.prog W.drew = .ok (.slice (some ⟨W.heap.size, 0, none⟩) m m) (W.alloc (.cells A 5)).drew := by
  obtain ⟨i5, hi5, hy0, hy1, hy2⟩ := info_parts info5
  have h := run_make (P := Try.prog) W.drew 24 5 i5 (.int .u8 0) Try.underlying24 hi5 hy0 .i64 .i64 m m (by omega) (Int.le_refl _) (by rw [hy2]; omega) (by omega)
  rw [hy1] at h
  refine ⟨_, ?_, h⟩
  simp [madeCells, Value.cells]

set_option maxRecDepth 100000 in
set_option maxHeartbeats 1000000 in
theorem take_new {w : World} {base P Mb n : Nat} {budget : Int} {bs : List Blk} (h : Pl w base P Mb n budget bs) (hsz : SzOk bs) (hl : bs.length ≤ 2000) (x : Int) (hr : 16 ≤ roundL x ∧ roundL x ≤ 65536) (hb : liveL bs + roundL x ≤ budget) (hF : frees bs (roundL x) = []) :
    Calls Try.prog 41 #[.pointer (some ⟨P, 0, none⟩), .int .i64 x] w fun e w' => TakeOk w base P Mb n budget bs (bs ++ [(roundL x, true)], 0, bs.length) e w' := by
  obtain ⟨i100, hi100, hy0, hy1, hy2⟩ := info_parts info100
  obtain ⟨zs, vB, M, h⟩ := h
  have hlv := live_bd bs hsz
  have H := hide h
  have hg := grow_yes w h.pb (roundL x) (by omega) (by omega) hb
  obtain ⟨sa, cap, rfl⟩ := own_form2 h.own
  clear h
  have hnot : ¬ roundL x < 0 := by omega
  generalize hR : roundL x = R at *
  obtain ⟨m, hm⟩ : ∃ m : Nat, R = (m : Int) := ⟨R.toNat, by omega⟩
  subst hm
  have Hh := hide (show frees bs (m : Int) = [] from hF)
  have hM63 : bs.length + 1 ≤ maxLen := by unfold maxLen; omega
  have hM8 : (bs.length + 1) * 32 ≤ 140737488355328 := by omega
  have htwo : 0 < 2 := by omega
  clear hF
  go_enter Try.func41, Try.ntmps41
  go_wp2_with (first
    | (go_at_call 8; refine (iRound_any x _).mono ?_; rintro e w' ⟨rfl, rfl⟩; rw [hR])
    | (go_at_call 46; refine hg.mono ?_; rintro e w1 ⟨rfl, hpb, hm⟩; have HP := hide (H.out.reP hm hpb); have HM := hide (Kp.mut hm H.out.lo.1); clear hpb hm)
    | (go_at_call 47; refine (reuse_none HP.out (m : Int) hr Hh.out).mono ?_; rintro e w2 ⟨rfl, rfl⟩; have c4 := HP.out.pb.c4))
  rename_i w2 _ _
  obtain ⟨A, hA, hmk⟩ := made_bytes w2 m (by omega)
  have hPlt := HP.out.pb.lt
  have c4a : (w2.alloc (.cells A 5)).cell? ⟨P, 4, none⟩ = some (.slice sa bs.length cap) := by rw [World.cell?_alloc_past _ P 4 hPlt]; exact c4
  have c4b : ((w2.alloc (.cells A 5)).alloc (.cells #[.slice (some ⟨w2.heap.size, 0, none⟩) m m, .bool false] 100)).cell? ⟨P, 4, none⟩ = some (.slice sa bs.length cap) := by rw [World.cell?_alloc_past _ P 4 (by simp; omega)]; exact c4a
  have Hbase : Hid (base ≤ ((w2.alloc (.cells A 5)).alloc (.cells #[.slice (some ⟨w2.heap.size, 0, none⟩) m m, .bool false] 100)).drew.heap.size) := by
    show base ≤ _
    have := HP.out.lo.2.2
    simp; omega
  have HA := hide hA
  clear hA hPlt
  go_region_law (first | (refine step_append_at _ (by rfl) (.tmp 31) (.tmp 35) 87 (by rfl) base 100 i100 (.agg #[.slice none 0 0, .bool false]) 2 32 Try.underlying87 hi100 hy0 hy1 hy2 rfl htwo (.slice sa bs.length cap) bs.length (zcells zs) (by rfl) (((HP.out.own.alloc _).alloc _).drew) ⟨w2.heap.size + 1, 0, none⟩ 1 1 (zvv (.slice (some ⟨w2.heap.size, 0, none⟩) m m, false)) (by rfl) rfl (by have := two_newZ (w2.alloc (.cells A 5)) (.slice (some ⟨w2.heap.size, 0, none⟩) m m, false); simpa using this) (zvv_one _ _ _) hM63 hM8 Hbase.out ?_; intro v3 w3 hown3 hgrow3 hat3; obtain ⟨g3, c3, rfl, _⟩ := own_form3 hown3 (by omega); obtain ⟨f1, f2⟩ := HP.out.push (m := m) (by rw [HA.out]; exact Nat.le_refl _) hgrow3 hown3 (by simpa using hat3); have HF := hide f1; have HK := hide f2; have HO3 := hide hown3; have c43 := (HP.out.pb.ext (((((Ext.refl _).alloc A 5).alloc #[.slice (some ⟨w2.heap.size, 0, none⟩) m m, .bool false] 100)).drew)).row hgrow3 (fun e => HP.out.pB e.symm); have c431 := c43.c4; have c432 := c43.fz 4; clear hown3 hgrow3 hat3 f1 f2 c43) | fail)
  all_goals
    have HF2 := HF.out
    have hbl : (bs ++ [((m : Int), false)]).length = bs.length + 1 := by simp
    have hown4 := HF2.own
    rw [hbl] at hown4
    have q1 := (zown_at hown4 bs.length (by rw [HF2.zl]; simp)).2
    have qf := hown4.frozenAt (bs.length * 2 + 1)
    rw [← hbl] at HF2
    have HG := hide (HF2.flag bs.length (by simp) true)
    have c44 := HF.out.pb.c4
    have k0 : (0 : Int) ≤ (bs.length : Int) := Int.natCast_nonneg _
    have k1 : (bs.length : Int) < (bs.length : Int) + 1 := by omega
    clear HF2 hown4 hbl c4 c4a c4b hmk c431 c432 hg
    rw [List.length_append, List.length_singleton] at HG
    generalize (w3.setCell ⟨P, 4, none⟩ (.slice (some ⟨g3, 0, none⟩) (bs.length + 1) c3)) = W4 at *
  all_goals go_wp2
  all_goals
    refine bodyPost_ret (results_tmp2 rfl _ _ _) rfl ?_
    obtain ⟨f1, f2⟩ := HG.out
    have hs : (bs ++ [((m : Int), false)]).set bs.length (((bs ++ [((m : Int), false)]).getD bs.length b0).fst, true) = bs ++ [((m : Int), true)] := by simp [List.getD_eq_getElem?_getD, List.set_append_right]
    rw [hs] at f1
    exact ⟨rfl, (f1.close (fun y => (frees_push bs m y).symm) (by rw [liveL_snoc]; simp [blv])).more (Nat.le_succ n), HM.out.trans (HK.out.trans f2)⟩

/-- take -/
theorem takeP_any {w : World} {base P Mb n : Nat} {budget : Int} {bs : List Blk} (h : Pl w base P Mb n budget bs) (hsz : SzOk bs) (hl : bs.length ≤ 2000) (x y : Int) :
    Calls Try.prog 41 #[.pointer (some ⟨P, 0, none⟩), .int .i64 x] w fun e w' => TakeOk w base P Mb n budget bs (stepP budget bs (1, x, y)) e w' := by
  have hst : stepP budget bs (1, x, y) = if roundL x < 0 then (bs, 16, -1) else ((takeL bs budget (roundL x)).1, (if (takeL bs budget (roundL x)).2 < 0 then 17 else 0), (takeL bs budget (roundL x)).2) := by
    unfold stepP; rw [if_pos rfl]
  rw [hst]
  rcases round_bd x with hr | hr
  · rw [if_pos (by omega)]
    exact take_bad h x (by omega)
  · rw [if_neg (by omega)]
    by_cases hb : budget < liveL bs + roundL x
    · have : takeL bs budget (roundL x) = (bs, -1) := if_pos hb
      rw [this]
      exact take_full h hsz hl x hr hb
    · cases hF : frees bs (roundL x) with
      | nil =>
        have hff := frees_none hF
        have : takeL bs budget (roundL x) = (bs ++ [(roundL x, true)], (bs.length : Int)) := by unfold takeL; rw [if_neg hb, hff]
        rw [this]
        have := take_new h hsz hl x hr (by omega) hF
        rw [if_neg (by simp)]
        exact this
      | cons z rest =>
        obtain ⟨i, hi, rfl, hfi, hff⟩ := frees_head hF
        have : takeL bs budget (roundL x) = (bs.set i (roundL x, true), (i : Int)) := by unfold takeL; rw [if_neg hb, hff]
        rw [this]
        rw [if_neg (by simp)]
        exact take_old h hsz hl x hr (by omega) i rest hF hi hfi
end Go.Proofs.Ytjjemnlknnnkbaa
