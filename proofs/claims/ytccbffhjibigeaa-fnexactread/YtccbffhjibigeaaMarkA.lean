import Derived.Test.YtccbffhjibigeaaMarkH
namespace Go.Proofs.Ytccbffhjibigeaa
open Go.ChangeShapes Go.RowKit FL
set_option linter.unusedSimpArgs false
set_option linter.unusedVariables false

set_option maxRecDepth 100000 in
set_option maxHeartbeats 1000000 in
theorem markI_any {w : World} {b off cap : Nat} {xs : List Int} (h : Row w b off xs) (hf : ∀ o, w.frozen? ⟨b, o, none⟩ = false) (k : Int) (hk : 0 ≤ k ∧ k ≤ 1000000000000000) (hl : xs.length ≤ 1000000000000) :
    Calls Try.prog 59 #[.slice (some ⟨b, off, none⟩) xs.length cap, .int .i64 k] w fun e w' => e = .returned (.int .i64 (k + xs.length)) ∧ Row w' b off (counted xs.length k) ∧ Mut b w w' := by
  have H := hide h
  clear h
  go_enter Try.func59, Try.ntmps59
  go_wp2
  go_loopw [1, 5] (fun m i wr => ∃ j : Nat, i = .int .i64 j ∧ m = .int .i64 (k + j) ∧ j ≤ xs.length ∧ Row wr b off (marked xs k j) ∧ Mut b w wr) (fun m i _ => xs.length - (intOf i).toNat)
  case atStart => exact ⟨0, rfl, by simp, by omega, by rw [marked_zero]; exact H.out, Mut.refl _ _⟩
  case round =>
    obtain ⟨j, rfl, rfl, hj, hr, hm⟩ := hrel
    have HR := hide hr
    have HM := hide hm
    clear hr hm
    by_cases hlt : j < xs.length
    · have hml : j < (marked xs k j).length := by rw [marked_len xs k j hj]; exact hlt
      have q0 := HR.out j hml
      have qf := (HM.out.fz ⟨b, off + j, none⟩).trans (hf _)
      have hj0 : (0 : Int) ≤ (j : Int) := Int.natCast_nonneg _
      have hj1 : (j : Int) < (xs.length : Int) := by omega
      have St := HR.out.set (k := j) hml (k + j)
      rw [marked_set xs k j hlt] at St
      have HSt := hide St
      clear St
      generalize (marked xs k j).getD j 0 = x at q0
      go_wp2
      go_roundw
      · exact ⟨j + 1, by go_num, by go_num, by omega, HSt.out, HM.out.setCell _ _⟩
      · simp [intOf]; omega
    · have hjj : j = xs.length := by omega
      subst hjj
      go_wp2
      go_ret
      refine ⟨rfl, ?_, HM.out⟩
      have := HR.out
      rw [marked_full] at this
      exact this

theorem Ext.ke {w w' : World} (x : Ext w w') : KE w w' := fun b o v h => ⟨v, x.box h⟩

set_option maxRecDepth 100000 in
set_option maxHeartbeats 1000000 in
theorem markHeap_any {w : World} {lo hi b cap : Nat} {ss : List St} (h : WRow w lo hi b 0 ss) (hb : b < lo) (hh : hi ≤ w.heap.size) (hbh : b < hi) (hf : ∀ c o, b ≤ c → c < hi → w.frozen? ⟨c, o, none⟩ = false) (hl : SL ss 1048576) :
    Calls Try.prog 19 #[.agg #[.slice (some ⟨b, 0, none⟩) ss.length cap], .int .i64 1] w fun e w' => (∃ r : Int, e = .returned (.int .i64 r) ∧ 0 ≤ r ∧ r ≤ 10000000000000) ∧ MIn b hi w w' := by
  have x0 : Ext w (w.alloc (.cells #[.slice (some ⟨b, 0, none⟩) ss.length cap] 29)) := (Ext.refl w).alloc _ _
  have hm := hide (markS_any (cap := cap) (h.step x0.ke (fun o v _ hc => x0.box hc)) hb (Nat.le_trans hh (Below.size x0.bl)) hbh (fun c o hc hc2 => (x0.fz _).trans (hf c o hc hc2)) hl 1 (by omega))
  have X0 := hide (x0.mIn (lo := b) (hi := hi) (by omega))
  clear x0 h hf hl
  go_enter Try.func19, Try.ntmps19
  go_wp2_with (go_at_call 37; refine hm.out.mono ?_; rintro e w2 ⟨⟨r, rfl, h0, h1⟩, hx⟩)
  go_ret
  exact ⟨⟨r, rfl, h0, by omega⟩, X0.out.tr hx⟩

set_option maxRecDepth 100000 in
set_option maxHeartbeats 1000000 in
theorem markView_any {w : World} {b c : Nat} {xs sv : List Int} (off : Int) (hx : Row w b 0 xs) (hs : Row w c 0 sv) (hbc : b < c) (hcs : c < w.heap.size) (hf : ∀ d o, b ≤ d → d ≤ c → w.frozen? ⟨d, o, none⟩ = false) (lx : xs.length ≤ 1048576) (ls : sv.length ≤ 1048576) (k : Int) (hk : 0 ≤ k ∧ k ≤ 10000000000000) :
    Calls Try.prog 38 #[.agg #[.slice (some ⟨b, 0, none⟩) xs.length xs.length, .slice (some ⟨c, 0, none⟩) sv.length sv.length, .int .i64 off], .int .i64 k] w fun e w' => (∃ r : Int, e = .returned (.int .i64 r) ∧ 0 ≤ r) ∧ MIn b (c + 1) w w' := by
  have x0 : Ext w (w.alloc (.cells #[.slice (some ⟨b, 0, none⟩) xs.length xs.length, .slice (some ⟨c, 0, none⟩) sv.length sv.length, .int .i64 off] 40)) := (Ext.refl w).alloc _ _
  have n1 := fun j => new_cell w #[.slice (some ⟨b, 0, none⟩) xs.length xs.length, .slice (some ⟨c, 0, none⟩) sv.length sv.length, .int .i64 off] 40 w.heap.size rfl j
  have C1 := hide (n1 1)
  have HX := hide (hx.ext x0)
  have HS := hide (hs.ext x0)
  have HF : Hid (∀ d o, b ≤ d → d ≤ c → (w.alloc (.cells #[.slice (some ⟨b, 0, none⟩) xs.length xs.length, .slice (some ⟨c, 0, none⟩) sv.length sv.length, .int .i64 off] 40)).frozen? ⟨d, o, none⟩ = false) := fun d o hd hd2 => (x0.fz _).trans (hf d o hd hd2)
  have X0 := hide (x0.mIn (lo := b) (hi := c + 1) (by omega))
  have hsz := Below.size x0.bl
  have hm := hide (markI_any (cap := xs.length) HX.out (fun o => HF.out b o (Nat.le_refl _) (by omega)) k ⟨hk.1, by omega⟩ (by omega))
  clear x0 n1 hx hs hf
  go_enter Try.func38, Try.ntmps38
  go_wp2_with fail
  generalize w.alloc (.cells #[.slice (some ⟨b, 0, none⟩) xs.length xs.length, .slice (some ⟨c, 0, none⟩) sv.length sv.length, .int .i64 off] 40) = W0 at *
  refine hm.out.mono ?_
  rintro e w1 ⟨rfl, _, hmu⟩
  have c1 := hmu.box (by omega) C1.out
  have HS1 := hide (HS.out.mut hmu (by omega))
  have X1 := hide (X0.out.tr (hmu.mIn (lo := b) (hi := c + 1) (Nat.le_refl _) (by omega) (by omega)))
  have F1 : Hid (∀ o, w1.frozen? ⟨c, o, none⟩ = false) := fun o => (hmu.fz _).trans (HF.out c o (by omega) (Nat.le_refl _))
  have hs1 := hmu.size
  clear hmu hm HX HS HF X0 C1
  go_wp2_with (go_at_call 59; refine (markI_any (cap := sv.length) HS1.out F1.out (k + xs.length) ⟨by omega, by omega⟩ (by omega)).mono ?_; rintro e w2 ⟨rfl, _, hmu2⟩)
  go_ret
  exact ⟨⟨_, rfl, by omega⟩, X1.out.tr (hmu2.mIn (lo := b) (hi := c + 1) (by omega) (by omega) (by omega))⟩

set_option maxRecDepth 100000 in
set_option maxHeartbeats 1000000 in
theorem markArray_any {w : World} {b c : Nat} {xs sv : List Int} (st off : Int) (hx : Row w b 0 xs) (hs : Row w c 0 sv) (hbc : b < c) (hcs : c < w.heap.size) (hf : ∀ d o, b ≤ d → d ≤ c → w.frozen? ⟨d, o, none⟩ = false) (lx : xs.length ≤ 1048576) (ls : sv.length ≤ 1048576) (k : Int) (hk : 0 ≤ k ∧ k ≤ 10000000000000) :
    Calls Try.prog 20 #[.agg #[.int .i64 st, .slice (some ⟨b, 0, none⟩) xs.length xs.length, .slice (some ⟨c, 0, none⟩) sv.length sv.length, .int .i64 off], .int .i64 k] w fun e w' => (∃ r : Int, e = .returned (.int .i64 r) ∧ 0 ≤ r) ∧ MIn b (c + 1) w w' := by
  have x0 : Ext w (w.alloc (.cells #[.int .i64 st, .slice (some ⟨b, 0, none⟩) xs.length xs.length, .slice (some ⟨c, 0, none⟩) sv.length sv.length, .int .i64 off] 42)) := (Ext.refl w).alloc _ _
  have hm := hide (markView_any off (hx.ext x0) (hs.ext x0) hbc (Nat.lt_of_lt_of_le hcs (Below.size x0.bl)) (fun d o hd hd2 => (x0.fz _).trans (hf d o hd hd2)) lx ls k hk)
  have X0 := hide (x0.mIn (lo := b) (hi := c + 1) (by omega))
  clear x0 hx hs hf
  go_enter Try.func20, Try.ntmps20
  go_wp2_with (go_at_call 38; refine hm.out.mono ?_; rintro e w2 ⟨⟨r, rfl, h0⟩, hx⟩)
  go_ret
  exact ⟨⟨r, rfl, h0⟩, X0.out.tr hx⟩
end Go.Proofs.Ytccbffhjibigeaa
