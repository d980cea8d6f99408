import Derived.Test.YtbkdfhlbjaiahaaPlaces2
namespace Go.Proofs.Ytbkdfhlbjaiahaa
open Go.ChangeShapes Go.RowKit
set_option linter.unusedSimpArgs false
set_option linter.unusedVariables false

/-- What the loads of the region read. -/
structure RS (w wr : World) (vS vT : Value) (off : Int) (b o : Nat) (s : Int) : Prop where
  p0 : wr.cell? ⟨w.heap.size, 0, none⟩ = some vS
  p1 : wr.cell? ⟨w.heap.size, 1, none⟩ = some vT
  p2 : wr.cell? ⟨w.heap.size, 2, none⟩ = some (.int .i64 off)
  st : wr.cell? ⟨b, o, none⟩ = some (.int .i64 s)

theorem RS.keep {w wr w2 : World} {vS vT : Value} {off : Int} {b o : Nat} {s : Int} (h : RS w wr vS vT off b o s) (x : Bel wr w2) : RS w w2 vS vT off b o s := ⟨x.box h.p0, x.box h.p1, x.box h.p2, x.box h.st⟩
theorem bel_drew (w : World) : Bel w w.drew := (Below.refl _ _).drew
theorem own_some {w' : World} {lo : Nat} {sa : Option Addr} {L : List Int} (h : OwnI w' lo sa L) (hL : 1 ≤ L.length) : ∃ g, sa = some ⟨g, 0, none⟩ ∧ Row w' g 0 L := by
  rcases h with rfl | ⟨g, h1, _, h3, _⟩
  · simp at hL
  · exact ⟨g, h1, h3⟩
theorem row_news {w : World} {g : Nat} {L : List Int} (h : Row w g 0 L) : ∀ j u, (L.map (Value.int .i64))[j]? = some u → w.cell? ((⟨g, 0, none⟩ : Addr).add j) = some u := by
  intro j u hu
  have hj : j < L.length := by
    have := (List.getElem?_eq_some_iff.1 hu).1
    simpa using this
  have e : L[j]? = some (L.getD j 0) := by simp [List.getD_eq_getElem?_getD, hj]
  rw [List.getElem?_map, e] at hu
  simp only [Option.map_some, Option.some.injEq] at hu
  subst hu
  rw [Addr.add_lit]
  exact h j hj
theorem one_cells (L : List Int) : ∀ u ∈ L.map (Value.int .i64), u.oneCell' = true := by
  intro x hx
  simp at hx
  obtain ⟨y, _, rfl⟩ := hx
  rfl
theorem PS.own2 {w wr : World} {vS vT : Value} {off : Int} {L : List Int} {g0 l c0 : Nat} (h : PS w wr vS vT off L (.slice (some ⟨g0, 0, none⟩) l c0)) (hl : L.length = l) : wr.ownsRow (w.heap.size + 1) 2 1 (.slice (some ⟨g0, 0, none⟩) l c0) l (L.map (Value.int .i64)) := by
  subst hl; exact h.own
theorem PS.step2 {w wr w3 : World} {vS vT : Value} {off : Int} {L M : List Int} {g0 l c0 m : Nat} (h : PS w wr vS vT off L (.slice (some ⟨g0, 0, none⟩) l c0)) (hl : L.length = l) (hm : M.length = m) {g cap : Nat}
    (hown : w3.ownsRow (w.heap.size + 1) 2 1 (.slice (some ⟨g, 0, none⟩) (l + m) cap) (l + m) (L.map (Value.int .i64) ++ M.map (Value.int .i64))) (hgrow : World.grownBy wr w3 (Value.slice (some ⟨g0, 0, none⟩) l c0).ownBlock) :
    PS w w3 vS vT off (L ++ M) (.slice (some ⟨g, 0, none⟩) (l + m) cap) := by
  subst hl
  subst hm
  exact h.step hown hgrow
theorem map_len {M : List Int} {m : Nat} (hm : M.length = m) : (M.map (Value.int .i64)).length = m * 1 := by simp [hm]
theorem flat_len (F : Int → List Int) (M : Nat) (hF : ∀ i, (F i).length = M) (at_ s : Int) (k : Nat) : ((List.range k).flatMap fun (i : Nat) => F (at_ + (i : Int) * s)).length = k * M := by
  induction k with
  | zero => simp
  | succ k ih => rw [List.range_succ, List.flatMap_append, List.length_append, ih]; simp [hF]; rw [Nat.succ_mul]

set_option maxRecDepth 100000 in
set_option maxHeartbeats 500000 in
theorem places_step {w : World} {vS vT : Value} {xs ss : List Int} (hS : Ints w vS xs) (hT : Ints w vT ss) (off at_ : Int) (axis : Nat) (ha : axis < xs.length) (h4 : xs.length ≤ 4) (hl : xs.length = ss.length)
    (n s : Int) (hn : n = xs.getD axis 0) (hs : s = ss.getD axis 0) (hn1 : 1 ≤ n ∧ n ≤ 4096) (hs1 : -4096 ≤ s ∧ s ≤ 4096) (hat : -100000000 ≤ at_ ∧ at_ ≤ 100000000)
    (F : Int → List Int) (M : Nat) (hM : 1 ≤ M) (hF : ∀ i, (F i).length = M) (hnM : n.toNat * M ≤ 4096)
    (ih : ∀ (W : World) (p : Int), Bel w W → at_ - 16777216 ≤ p ∧ p ≤ at_ + 16777216 → Calls Try.prog 70 #[.agg #[vS, vT, .int .i64 off], .int .i64 ((axis : Int) + 1), .int .i64 p] W fun e w' => ListOk W (F p) e w') :
    Calls Try.prog 70 #[.agg #[vS, vT, .int .i64 off], .int .i64 axis, .int .i64 at_] w fun e w' => ListOk w ((List.range n.toNat).flatMap fun (i : Nat) => F (at_ + (i : Int) * s)) e w' := by
  obtain ⟨i0, hi0, hz0, hz1, hz2⟩ := info_parts info2
  obtain ⟨sa, cap, rfl, hS⟩ := hS
  obtain ⟨ta, dap, rfl, hT⟩ := hT
  rcases hS with h0 | ⟨bS, oS, rfl, rowS⟩
  · rw [h0] at ha; simp at ha
  rcases hT with h0 | ⟨bT, oT, rfl, rowT⟩
  · rw [hl, h0] at ha; simp at ha
  have cS := rowS axis ha
  have cT := rowT axis (by omega)
  rw [← hn] at cS
  rw [← hs] at cT
  have IH := hide ih
  have HFl := hide hF
  have HL := hide hl
  have hne : ((axis : Int) == (xs.length : Int)) = false := by simp; omega
  have ha0 : (0 : Int) ≤ (axis : Int) := Int.natCast_nonneg _
  have ha1 : (axis : Int) < (xs.length : Int) := by omega
  have ha2 : (axis : Int) < (ss.length : Int) := by omega
  clear hn hs rowS rowT ih hF hl
  have S0 := hide (PS.start w (.slice (some ⟨bS, oS, none⟩) xs.length cap) (.slice (some ⟨bT, oT, none⟩) ss.length dap) off)
  go_enter Try.func70, Try.ntmps70
  go_wp2
  go_loopw [7, 8] (fun o i wr => ∃ k : Nat, i = .int .i64 k ∧ k ≤ n.toNat ∧ PS w wr (.slice (some ⟨bS, oS, none⟩) xs.length cap) (.slice (some ⟨bT, oT, none⟩) ss.length dap) off ((List.range k).flatMap fun (i : Nat) => F (at_ + (i : Int) * s)) o) (fun o i _ => n.toNat - (intOf i).toNat)
  case atStart => exact ⟨0, rfl, by omega, by simpa using S0.out⟩
  case round =>
    obtain ⟨k, rfl, hk, hP⟩ := hrel
    have HP := hide hP
    have p0 := hP.p0
    have p1 := hP.p1
    have p2 := hP.p2
    have qS := Bel.box hP.bl cS
    have qT := Bel.box hP.bl cT
    have hszr := hP.sz
    clear hP
    by_cases hlt : k < n.toNat
    · have hkn : (k : Int) < n := by omega
      have hms : -16777216 ≤ (k : Int) * s ∧ (k : Int) * s ≤ 16777216 := by
        have := mul_between (k : Int) n s (by omega) (by omega)
        have h1 : -16777216 ≤ s * (n - 1) ∧ s * (n - 1) ≤ 16777216 := by
          have := mul_between (n - 1) 4096 s (by omega) (by omega)
          rw [Int.mul_comm s (n - 1)]
          omega
        omega
      have hkM : k * M + M ≤ 4096 := by
        have h1 : (k + 1) * M ≤ n.toNat * M := Nat.mul_le_mul_right M hlt
        rw [Nat.succ_mul] at h1
        omega
      have hLl := flat_len F M HFl.out at_ s k
      have hFp := HFl.out (at_ + (k : Int) * s)
      have hsucc : ((List.range (k + 1)).flatMap fun (i : Nat) => F (at_ + (i : Int) * s)) = ((List.range k).flatMap fun (i : Nat) => F (at_ + (i : Int) * s)) ++ F (at_ + (k : Int) * s) := by
        rw [List.range_succ, List.flatMap_append]; simp
      have HIH := hide (IH.out wr.drew (at_ + (k : Int) * s) (Bel.tr HP.out.bl (bel_drew wr)) (by omega))
      have hwa : IntKind.i64.wrap ((axis : Int) + 1) = (axis : Int) + 1 := by rw [IntKind.wrap_i64]; omega
      have hwm : IntKind.i64.wrap ((k : Int) * s) = (k : Int) * s := by rw [IntKind.wrap_i64]; omega
      have hwp : IntKind.i64.wrap (at_ + (k : Int) * s) = at_ + (k : Int) * s := by rw [IntKind.wrap_i64]; omega
      obtain ⟨g0, c0, hv⟩ := HP.out.nn
      subst hv
      generalize hFF : F (at_ + (k : Int) * s) = FF at HIH hFp hsucc
      generalize hLL : ((List.range k).flatMap fun (i : Nat) => F (at_ + (i : Int) * s)) = LL at HP hLl hsucc ⊢
      have Hsucc := hide hsucc
      clear hsucc hFF hLL
      have HPd := hide (HP.out.keep (bel_drew wr))
      have HD : Hid (RS w wr.drew (.slice (some ⟨bS, oS, none⟩) xs.length cap) (.slice (some ⟨bT, oT, none⟩) ss.length dap) off bT (oT + axis) s) := RS.keep ⟨p0, p1, p2, qT⟩ (bel_drew wr)
      rw [hLl] at HPd ⊢
      have hB63 : k * M + M ≤ maxLen := by unfold maxLen; omega
      have hB8 : (k * M + M) * 8 ≤ 140737488355328 := by omega
      have hM0 : 0 < M := hM
      have hone : 0 < 1 := Nat.one_pos
      go_wp2_with fail
      go_region_held3 (fun w' => w'.cell? ⟨w.heap.size, 0, none⟩ = some (.slice (some ⟨bS, oS, none⟩) xs.length cap) ∧ w'.cell? ⟨w.heap.size, 1, none⟩ = some (.slice (some ⟨bT, oT, none⟩) ss.length dap) ∧ w'.cell? ⟨w.heap.size, 2, none⟩ = some (.int .i64 off) ∧ w'.cell? ⟨bT, oT + axis, none⟩ = some (.int .i64 s)) (first | exact ⟨HD.out.p0, HD.out.p1, HD.out.p2, HD.out.st⟩ | exact ⟨HE4.out.p0, HE4.out.p1, HE4.out.p2, HE4.out.st⟩ | exact ⟨HF5.out.p0, HF5.out.p1, HF5.out.p2, HF5.out.st⟩) (first | (go_at_call 70; refine HIH.out.mono ?_; rintro e w4 ⟨sb, cb, rfl, hO, hB4⟩; obtain ⟨g, rfl, hrow⟩ := own_some hO (by omega); have HE4 := hide (HD.out.keep hB4); have HP4 := hide (HPd.out.keep hB4); have Hrow := hide hrow; have hsz4 := HP4.out.sz; rw [hFp]; clear hO hB4 hrow) | (refine step_append_lies _ (by rfl) (.tmp 26) (.tmp 39) 33 (by rfl) (w.heap.size + 1) 2 i0 (.int .i64 0) 1 8 Try.underlying33 hi0 hz0 hz1 hz2 rfl hone (.slice (some ⟨g0, 0, none⟩) (k * M) c0) (k * M) (LL.map (Value.int .i64)) (by rfl) (HP4.out.own2 hLl) ⟨g, 0, none⟩ M cb (FF.map (Value.int .i64)) (by rfl) (map_len hFp) (row_news Hrow.out) (one_cells FF) hM0 hB63 hB8 hsz4 w4.heap.size rfl ?_; intro g2 cap2 w5 hown5 hgrow5 hat5 hlt5; have HPS := hide (HP4.out.step2 hLl hFp hown5 hgrow5); have HF5 : Hid (RS w w5 (.slice (some ⟨bS, oS, none⟩) xs.length cap) (.slice (some ⟨bT, oT, none⟩) ss.length dap) off bT (oT + axis) s) := ⟨HPS.out.p0, HPS.out.p1, HPS.out.p2, Bel.box HPS.out.bl cT⟩))
      go_wp2
      go_roundw
      · exact ⟨k + 1, by go_num, by omega, by rw [Hsucc.out]; exact HPS.out⟩
      · simp [intOf]; omega
    · have hkk : k = n.toNat := by omega
      subst hkk
      have hnk : ¬ ((n.toNat : Nat) : Int) < n := by omega
      have HO := hide (own_of (w := w) (by omega) HP.out.own)
      have HBl := hide HP.out.bl
      clear HP
      go_wp2
      go_ret
      obtain ⟨sx, cx, hv, ho⟩ := HO.out
      subst hv
      exact ⟨sx, cx, rfl, ho, HBl.out⟩

theorem drop_cons (xs : List Int) (k : Nat) (hk : k < xs.length) : xs.drop k = xs.getD k 0 :: xs.drop (k + 1) := by
  rw [List.drop_eq_getElem_cons hk, List.getD_eq_getElem?_getD, List.getElem?_eq_getElem hk]; rfl

set_option maxRecDepth 100000 in
/-- l2Places: the places. -/
theorem places_any (xs ss : List Int) (hl : xs.length = ss.length) (h4 : xs.length ≤ 4) (h1 : ∀ n ∈ xs, 1 ≤ n ∧ n ≤ 4096) (hs : ∀ s ∈ ss, -4096 ≤ s ∧ s ≤ 4096) (off : Int) (vS vT : Value) :
    ∀ (r axis : Nat), axis + r = xs.length → ∀ (w : World) (at_ : Int), Ints w vS xs → Ints w vT ss → plen (xs.drop axis) ≤ 4096 → (-8192 - (axis : Int) * 16777216 ≤ at_ ∧ at_ ≤ 8192 + (axis : Int) * 16777216) →
      Calls Try.prog 70 #[.agg #[vS, vT, .int .i64 off], .int .i64 axis, .int .i64 at_] w fun e w' => ListOk w (places (xs.drop axis) (ss.drop axis) at_) e w' := by
  intro r
  induction r with
  | zero =>
    intro axis ha w at_ hS hT hp hb
    have e : xs.drop axis = [] := List.drop_eq_nil_of_le (by omega)
    rw [e]
    exact places_end hS off at_ axis (by omega)
  | succ r ih =>
    intro axis ha w at_ hS hT hp hb
    have hax : axis < xs.length := by omega
    have ex := drop_cons xs axis hax
    have es := drop_cons ss axis (by omega)
    have hmx : xs.getD axis 0 ∈ xs := by rw [List.getD_eq_getElem?_getD, List.getElem?_eq_getElem hax]; exact List.getElem_mem _
    have hms : ss.getD axis 0 ∈ ss := by rw [List.getD_eq_getElem?_getD, List.getElem?_eq_getElem (by omega)]; exact List.getElem_mem _
    have hn := h1 _ hmx
    have hp2 : plen (xs.drop axis) = (xs.getD axis 0).toNat * plen (xs.drop (axis + 1)) := by rw [ex]; rfl
    have hpos : 1 ≤ plen (xs.drop (axis + 1)) := plen_pos _ (fun m hm => (h1 m (List.mem_of_mem_drop hm)).1)
    have hple : plen (xs.drop (axis + 1)) ≤ 4096 := by
      refine Nat.le_trans ?_ hp
      rw [hp2]
      exact Nat.le_mul_of_pos_left _ (by omega)
    have hdl : (xs.drop (axis + 1)).length = (ss.drop (axis + 1)).length := by rw [List.length_drop, List.length_drop, hl]
    have hst := places_step hS hT off at_ axis hax h4 hl (xs.getD axis 0) (ss.getD axis 0) rfl rfl hn (hs _ hms) (by omega) (places (xs.drop (axis + 1)) (ss.drop (axis + 1))) (plen (xs.drop (axis + 1))) hpos (fun i => places_len _ _ _ hdl) (by rw [← hp2]; exact hp)
      (fun W p hW hpb => by
        have := ih (axis + 1) (by omega) W p (hS.below hW) (hT.below hW) hple (by omega)
        rw [show ((axis + 1 : Nat) : Int) = (axis : Int) + 1 by omega] at this
        exact this)
    rw [ex, es]
    exact hst
end Go.Proofs.Ytbkdfhlbjaiahaa
