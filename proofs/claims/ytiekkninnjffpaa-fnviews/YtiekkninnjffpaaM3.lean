import Derived.Test.YtiekkninnjffpaaJoin3
import Derived.Test.YtiekkninnjffpaaSpecBS
import Derived.Deep.QuietTactic
import Derived.Test.YtiekkninnjffpaaPlaces
import Derived.Deep.RegionHeld3
import Derived.Deep.RegionHeldLaw
import Derived.Deep.AppendLies
namespace Go.Proofs.Ytiekkninnjffpaa
open Go.ChangeShapes Go.RowKit
set_option linter.unusedSimpArgs false
set_option linter.unusedVariables false

def ListOk (w : World) (L : List Int) (e : Ending) (w' : World) : Prop :=
  ∃ (sa : Option Addr) (cap : Nat), e = .returned (.slice sa L.length cap) ∧ OwnI w' w.heap.size sa L ∧ Below w.heap.size w w'

theorem own_of {w w3 : World} {base n : Nat} {v : Value} {L : List Int} (hb : w.heap.size ≤ base) (h : w3.ownsRow base 2 1 v n (L.map (Value.int .i64))) : ∃ sa cap, v = .slice sa L.length cap ∧ OwnI w3 w.heap.size sa L := by
  have hl : n = L.length := by have := h.1; simp at this; omega
  rcases h.2 with ⟨h1, h2⟩ | ⟨g, cap, cur, h1, hg, _⟩
  · have : L = [] := List.eq_nil_of_length_eq_zero (by omega)
    subst this
    exact ⟨none, 0, h1, Or.inl rfl⟩
  · subst h1
    obtain ⟨hr, _⟩ := row_of_own h
    exact ⟨_, cap, by rw [hl], Or.inr ⟨g, rfl, by omega, hr, fun o => h.frozenAt o⟩⟩

set_option maxRecDepth 100000 in
set_option maxHeartbeats 2000000 in
theorem list_any (w : World) (L : List Int) (h4 : L.length ≤ 4) :
    Calls Try.prog 57 #[.agg (shp L)] w fun e w' => ListOk w L e w' := by
  obtain ⟨i0, hi0, hz0, hz1, hz2⟩ := info_parts info2
  have h4' : (L.length : Int) ≤ 4 := by omega
  have hcells : ∀ j u, (L.map (Value.int .i64))[j]? = some u → ((w.alloc (.cells (shp L) 62)).alloc (.cells #[] 2)).cell? ((⟨w.heap.size, 1, none⟩ : Addr).add j) = some u := fun j u hu => by
    have hj : j < L.length := by
      have := (List.getElem?_eq_some_iff.1 hu).1
      simpa using this
    have e : L[j]? = some (L.getD j 0) := by simp [List.getD_eq_getElem?_getD, hj]
    rw [List.getElem?_map, e] at hu
    simp at hu
    subst hu
    have n1 := fun j => new_cell w (shp L) 62 w.heap.size rfl j
    have e2 : Ext (w.alloc (.cells (shp L) 62)) ((w.alloc (.cells (shp L) 62)).alloc (.cells #[] 2)) := (Ext.refl _).alloc _ _
    rw [Addr.add_lit]
    refine e2.box ((n1 (1 + j)).trans ?_)
    obtain rfl | rfl | rfl | rfl : j = 0 ∨ j = 1 ∨ j = 2 ∨ j = 3 := by omega
    all_goals simp [shp, List.getD_eq_getElem?_getD, hj]
  have Hc := hide hcells
  clear hcells
  have hown : ((w.alloc (.cells (shp L) 62)).alloc (.cells #[] 2)).ownsRow (w.heap.size + 1) 2 1 (.slice (some ⟨w.heap.size + 1, 0, none⟩) 0 0) 0 [] := by
    have := World.ownsRow_made (base := w.heap.size + 1) (e := 2) (size := 1) (w.alloc (.cells (shp L) 62)) #[] 0 (by simp) (by unfold maxLen; omega) rfl
    simpa using this
  have Hown := hide hown
  clear hown
  unfold shp at Hc Hown ⊢
  go_enter Try.func57, Try.ntmps57
  go_wp2_with (at_builtin; refine wpList_append_own _ rfl _ _ 22 rfl (w.heap.size + 1) 2 i0 (.int .i64 0) 1 8 Try.underlying22 hi0 hz0 hz1 hz2 rfl (by decide) _ _ _ rfl Hown.out ⟨w.heap.size, 1, none⟩ L.length 4 (L.map (Value.int .i64)) rfl (by simp) Hc.out (fun x hx => by simp at hx; obtain ⟨y, _, rfl⟩ := hx; rfl) (by unfold maxLen; omega) (by omega) (by simp) ?_; intro v3 w3 hown3 hgrow3 hnil3)
  go_ret
  have hB : Below w.heap.size w w3 := (((Below.refl w.heap.size w).alloc (Nat.le_refl _) _).alloc (by simp) _).grown hgrow3 (by simp; omega) (fun k hk => by simp [Act.eval, Value.ownBlock] at hk; omega)
  obtain ⟨sa, cap, hv, ho⟩ := own_of (w := w) (Nat.le_succ _) (L := L) (by simpa using hown3)
  subst hv
  exact ⟨sa, cap, rfl, ho, hB⟩

set_option maxRecDepth 100000 in
set_option maxHeartbeats 4000000 in
theorem iBS_any {w : World} {v u : Value} {xs ys : List Int} (h : Ints w v xs) (g : Ints w u ys) (lx : xs.length ≤ 1048576) (ly : ys.length ≤ 1048576) :
    Calls Try.prog 20 #[v, u] w fun e w' => BSOk w xs ys e w' := by
  have x0 : Ext w (w.alloc (.cells #[.int .i64 0, .slice none 0 0] 32)) := (Ext.refl w).alloc _ _
  have X0 := hide x0
  have H := hide (h.ext x0)
  have G := hide (g.ext x0)
  obtain ⟨sa, cap, rfl, _⟩ := h
  obtain ⟨ta, dap, rfl, _⟩ := g
  clear x0
  go_enter Try.func20, Try.ntmps20
  go_wp2_with fail
  refine (fixShape_any H.out (by omega)).mono ?_
  rintro e w1 ⟨n, a0, a1, a2, a3, rfl, hX, x1⟩
  have HX := hide hX
  clear hX
  have r10 := x1.box (b := w.heap.size) (o := 0) (v := .int .i64 0) (by simp)
  have r11 := x1.box (b := w.heap.size) (o := 1) (v := .slice none 0 0) (by simp)
  have y1 : Ext w1 (w1.alloc (.cells #[.int .i64 n, .int .i64 a0, .int .i64 a1, .int .i64 a2, .int .i64 a3] 62)) := (Ext.refl w1).alloc _ _
  have G1 := hide ((G.out.ext x1).ext y1)
  have Y1 := hide ((X0.out.trans x1).trans y1)
  have n1 := fun j => new_cell w1 #[.int .i64 n, .int .i64 a0, .int .i64 a1, .int .i64 a2, .int .i64 a3] 62 w1.heap.size rfl j
  have s0 := n1 0
  have s1 := n1 1
  have s2 := n1 2
  have s3 := n1 3
  have s4 := n1 4
  have r20 := y1.box r10
  have r21 := y1.box r11
  clear n1 y1 x1
  go_wp2_with fail
  refine (fixShape_any G1.out (by omega)).mono ?_
  rintro e w2 ⟨m, b0, b1, b2, b3, rfl, hY, x2⟩
  have HY := hide hY
  clear hY
  have y2 : Ext w2 (w2.alloc (.cells #[.int .i64 m, .int .i64 b0, .int .i64 b1, .int .i64 b2, .int .i64 b3] 62)) := (Ext.refl w2).alloc _ _
  have Y2 := hide ((Y1.out.trans x2).trans y2)
  have n2 := fun j => new_cell w2 #[.int .i64 m, .int .i64 b0, .int .i64 b1, .int .i64 b2, .int .i64 b3] 62 w2.heap.size rfl j
  have u0 := n2 0
  have u1 := n2 1
  have u2 := n2 2
  have u3 := n2 3
  have u4 := n2 4
  have t0 := y2.box (x2.box s0)
  have t1 := y2.box (x2.box s1)
  have t2 := y2.box (x2.box s2)
  have t3 := y2.box (x2.box s3)
  have t4 := y2.box (x2.box s4)
  have q0 := y2.box (x2.box r20)
  have q1 := y2.box (x2.box r21)
  clear n2 y2 x2 s0 s1 s2 s3 s4 r20 r21 r10 r11
  have qf := fun o => Y2.out.unfrozen (b := w.heap.size) (Nat.le_refl _) o
  have hbad : Hid (¬ (Good xs ∧ Good ys ∧ Joins xs ys (max xs.length ys.length)) → ∀ W, Ext w W → BSOk w xs ys (.returned (.agg #[.int .i64 6, .slice none 0 0])) ((W.setCell ⟨w.heap.size, 0, none⟩ (.int .i64 6)).setCell ⟨w.heap.size, 1, none⟩ (.slice none 0 0))) := fun hn W hW => bad_ok hn ((hW.bl.setCell (Nat.le_refl _) _).setCell (Nat.le_refl _) _)
  cases hgx : goodB xs
  · have hn := hide (hbad.out (fun q => absurd q.1 (of_decide_eq_false hgx)) _ Y2.out)
    go_wp2
    exact bodyPost_ret (v := .agg #[.int .i64 6, .slice none 0 0]) (by simp [results, Try.results20, go_sem, q0, q1]) rfl hn.out
  cases hgy : goodB ys
  · have hn := hide (hbad.out (fun q => absurd q.2.1 (of_decide_eq_false hgy)) _ Y2.out)
    go_wp2
    exact bodyPost_ret (v := .agg #[.int .i64 6, .slice none 0 0]) (by simp [results, Try.results20, go_sem, q0, q1]) rfl hn.out
  have gx : Good xs := of_decide_eq_true hgx
  have gy : Good ys := of_decide_eq_true hgy
  obtain ⟨en, ea0, ea1, ea2, ea3⟩ := HX.out gx
  obtain ⟨em, eb0, eb1, eb2, eb3⟩ := HY.out gy
  have hJ : Hid (∀ W, Calls Try.prog 56 #[.agg #[.int .i64 n, .int .i64 a0, .int .i64 a1, .int .i64 a2, .int .i64 a3], .agg #[.int .i64 m, .int .i64 b0, .int .i64 b1, .int .i64 b2, .int .i64 b3]] W fun e w' => JoinOk W xs ys (max xs.length ys.length) e w') := fun W => by
    have hj := joinShapes_any W xs ys gx.1 gy.1 gx.2.1 gy.2.1 _ rfl
    unfold shp at hj
    rw [← en, ← ea0, ← ea1, ← ea2, ← ea3, ← em, ← eb0, ← eb1, ← eb2, ← eb3] at hj
    exact hj
  have hd4 : max xs.length ys.length ≤ 4 := by have := gx.1; have := gy.1; omega
  have hyes : Hid (Joins xs ys (max xs.length ys.length) → bsL xs ys = (0, jn xs ys (max xs.length ys.length))) := fun q => if_pos ⟨gx, gy, q⟩
  clear en ea0 ea1 ea2 ea3 em eb0 eb1 eb2 eb3 HX HY gx gy
  generalize hd : max xs.length ys.length = d at hJ hd4 hyes hbad
  have Hd := hide hd
  clear hd
  go_wp2_with fail
  refine (hJ.out _).mono ?_
  rintro e w3 ⟨z, c0, c1, c2, c3, rfl, hZ, x3⟩
  have y3 : Ext w3 (w3.alloc (.cells #[.int .i64 z, .int .i64 c0, .int .i64 c1, .int .i64 c2, .int .i64 c3] 62)) := (Ext.refl w3).alloc _ _
  have Y3 := hide ((Y2.out.trans x3).trans y3)
  have n3 := fun j => new_cell w3 #[.int .i64 z, .int .i64 c0, .int .i64 c1, .int .i64 c2, .int .i64 c3] 62 w3.heap.size rfl j
  have v0 := n3 0
  have v1 := n3 1
  have v2 := n3 2
  have v3 := n3 3
  have v4 := n3 4
  have k0 := y3.box (x3.box q0)
  have k1 := y3.box (x3.box q1)
  have kf := fun o => Y3.out.unfrozen (b := w.heap.size) (Nat.le_refl _) o
  clear n3 y3 x3 t0 t1 t2 t3 t4 u0 u1 u2 u3 u4 q0 q1 qf hJ
  cases hj : (dcJoins xs ys d)
  · have hn := hide (hbad.out (fun q => absurd q.2.2 (of_decide_eq_false hj)) _ Y3.out)
    clear hZ
    go_wp2
    exact bodyPost_ret (v := .agg #[.int .i64 6, .slice none 0 0]) (by simp [results, Try.results20, go_sem, k0, k1]) rfl hn.out
  have gj : Joins xs ys d := of_decide_eq_true hj
  obtain ⟨ez, ec0, ec1, ec2, ec3⟩ := hZ gj
  have hL : Hid (∀ W, Calls Try.prog 57 #[.agg #[.int .i64 z, .int .i64 c0, .int .i64 c1, .int .i64 c2, .int .i64 c3]] W fun e w' => ListOk W (jn xs ys d) e w') := fun W => by
    have hl := list_any W (jn xs ys d) (by rw [jn_len]; exact hd4)
    unfold shp at hl
    rw [← ez, ← ec0, ← ec1, ← ec2, ← ec3] at hl
    exact hl
  have HY2 := hide (hyes.out gj)
  clear ez ec0 ec1 ec2 ec3 hyes gj hZ hbad hgx hgy
  go_wp2_with fail
  refine (hL.out _).mono ?_
  rintro e w4 ⟨sb, cp, rfl, hO, hB4⟩
  have hlt := cell_lt k0
  have m0 := (hB4.cell (p := ⟨w.heap.size, 0, none⟩) hlt).trans k0
  have m1 := (hB4.cell (p := ⟨w.heap.size, 1, none⟩) hlt).trans k1
  have mf : ∀ o, w4.frozen? ⟨w.heap.size, o, none⟩ = false := fun o => (hB4.frozen (p := ⟨w.heap.size, o, none⟩) hlt).trans (kf o)
  have hBw : Hid (Below w.heap.size w w4) := Y3.out.bl.trans (hB4.mono Y3.out.bl.size)
  have HO := hide hO
  have Hlt := hide hlt
  clear hO hB4 hlt k0 k1 kf v0 v1 v2 v3 v4
  generalize hjl : (jn xs ys d).length = jl
  have Hjl := hide hjl
  clear hjl
  go_wp2
  refine bodyPost_ret (v := .agg #[.int .i64 0, .slice sb jl cp]) (by simp [results, Try.results20, go_sem, m0, m1]) rfl ⟨sb, cp, ?_, ?_, (hBw.out.setCell (Nat.le_refl _) _).setCell (Nat.le_refl _) _⟩
  · rw [HY2.out, Hjl.out]
  · rw [HY2.out]
    rcases HO.out with h | ⟨g, h1, h2, h3, h4⟩
    · exact Or.inl h
    · have hm : Mut w.heap.size w4 ((w4.setCell ⟨w.heap.size, 0, none⟩ (.int .i64 0)).setCell ⟨w.heap.size, 1, none⟩ (.slice sb jl cp)) := ((Mut.refl _ _).setCell _ _).setCell _ _
      have hg : w.heap.size < g := Nat.lt_of_lt_of_le Hlt.out h2
      exact Or.inr ⟨g, h1, by omega, h3.mut hm (by omega), fun o => (hm.fz _).trans (h4 o)⟩
end Go.Proofs.Ytiekkninnjffpaa
namespace Go.Proofs.Ytiekkninnjffpaa
open Go.ChangeShapes Go.RowKit
set_option linter.unusedSimpArgs false
set_option linter.unusedVariables false

/-- A slice of integers that lies in blocks lo to hi. -/
def IntsB (w : World) (lo hi : Nat) (v : Value) (L : List Int) : Prop :=
  ∃ sa cap, v = .slice sa L.length cap ∧ (L = [] ∨ ∃ b off, sa = some ⟨b, off, none⟩ ∧ lo ≤ b ∧ b < hi ∧ Row w b off L)

theorem IntsB.ints {w : World} {lo hi : Nat} {v : Value} {L : List Int} (h : IntsB w lo hi v L) : Ints w v L := by
  obtain ⟨sa, cap, rfl, h⟩ := h
  refine ⟨sa, cap, rfl, ?_⟩
  rcases h with h | ⟨b, off, h1, _, _, h2⟩
  · exact Or.inl h
  · exact Or.inr ⟨b, off, h1, h2⟩
theorem IntsB.below {w w' : World} {lo hi B : Nat} {v : Value} {L : List Int} (h : IntsB w lo hi v L) (x : Below B w w') (hB : hi ≤ B) : IntsB w' lo hi v L := by
  obtain ⟨sa, cap, rfl, h⟩ := h
  refine ⟨sa, cap, rfl, ?_⟩
  rcases h with h | ⟨b, off, h1, h2, h3, h4⟩
  · exact Or.inl h
  · exact Or.inr ⟨b, off, h1, h2, h3, fun j hj => by rw [x.cell (p := ⟨b, off + j, none⟩) (by show b < B; omega)]; exact h4 j hj⟩
theorem IntsB.mut {w w' : World} {lo hi b : Nat} {v : Value} {L : List Int} (h : IntsB w lo hi v L) (x : Mut b w w') (hb : b < lo ∨ hi ≤ b) : IntsB w' lo hi v L := by
  obtain ⟨sa, cap, rfl, h⟩ := h
  refine ⟨sa, cap, rfl, ?_⟩
  rcases h with h | ⟨c, off, h1, h2, h3, h4⟩
  · exact Or.inl h
  · exact Or.inr ⟨c, off, h1, h2, h3, h4.mut x (by omega)⟩

set_option maxRecDepth 100000 in
set_option maxHeartbeats 1000000 in
theorem markInts_nil {w : World} {sa : Option Addr} {cap : Nat} (k : Int) :
    Calls Try.prog 23 #[.slice sa 0 cap, .int .i64 k] w fun e w' => e = .returned (.int .i64 k) ∧ w' = w := by
  go_enter Try.func23, Try.ntmps23
  go_wp2
  go_loopw [1, 5] (fun m i wr => i = .int .i64 0 ∧ m = .int .i64 k ∧ wr = w) (fun m i _ => 0)
  case atStart => exact ⟨rfl, rfl, rfl⟩
  case round =>
    obtain ⟨rfl, rfl, rfl⟩ := hrel
    go_wp2
    go_ret
    exact ⟨rfl, rfl⟩

/-- mark, at whatever slice of the call's own. -/
theorem markB_any {w : World} {lo hi : Nat} {v : Value} {L : List Int} (h : IntsB w lo hi v L) (hf : ∀ b o, lo ≤ b → b < hi → w.frozen? ⟨b, o, none⟩ = false) (hlo : lo < hi) (k : Int) (hk : 0 ≤ k ∧ k ≤ 1000000000000) (hl : L.length ≤ 1000000000000) :
    Calls Try.prog 23 #[v, .int .i64 k] w fun e w' => e = .returned (.int .i64 (k + L.length)) ∧ IntsB w' lo hi v (counted L.length k) ∧ ∃ b, lo ≤ b ∧ b < hi ∧ Mut b w w' := by
  obtain ⟨sa, cap, rfl, h⟩ := h
  rcases h with rfl | ⟨b, off, rfl, h1, h2, h3⟩
  · refine (markInts_nil k).mono ?_
    rintro e w' ⟨rfl, rfl⟩
    exact ⟨by simp, ⟨sa, cap, by rw [counted_len], Or.inl rfl⟩, lo, Nat.le_refl _, hlo, Mut.refl _ _⟩
  · refine (markInts_any h3 (fun o => hf b o h1 h2) k hk hl).mono ?_
    rintro e w' ⟨rfl, hr, hm⟩
    exact ⟨rfl, ⟨_, cap, by rw [counted_len], Or.inr ⟨b, off, rfl, h1, h2, hr⟩⟩, b, h1, h2, hm⟩

set_option maxRecDepth 100000 in
set_option maxHeartbeats 2000000 in
theorem eqSR_true {w : World} {c : Int} {v u : Value} {L : List Int} (h : Ints w v L) (g : Ints w u L) (hl : L.length ≤ 1000000000000) :
    Calls Try.prog 21 #[.agg #[.int .i64 c, v], .agg #[.int .i64 c, u]] w fun e w' => e = .returned (.bool true) ∧ Ext w w' := by
  have x0 : Ext w ((w.alloc (.cells #[.int .i64 c, v] 32)).alloc (.cells #[.int .i64 c, u] 32)) := ((Ext.refl w).alloc _ _).alloc _ _
  have X0 := hide x0
  have H := hide (h.ext x0)
  have G := hide (g.ext x0)
  obtain ⟨sa, cap, rfl, _⟩ := h
  obtain ⟨ta, dap, rfl, _⟩ := g
  clear x0
  go_enter Try.func21, Try.ntmps21
  go_wp2_with fail
  refine (eqInts_any H.out G.out hl).mono ?_
  rintro e w1 ⟨rfl, x1⟩
  have X1 := hide x1
  clear x1
  rw [show decide (L = L) = true from by simp]
  go_wp2
  go_ret
  exact ⟨rfl, X0.out.trans X1.out⟩

set_option maxRecDepth 100000 in
set_option maxHeartbeats 2000000 in
theorem markSR_any {w : World} {lo hi : Nat} {c : Int} {v : Value} {L : List Int} (h : IntsB w lo hi v L) (hf : ∀ b o, lo ≤ b → b < hi → w.frozen? ⟨b, o, none⟩ = false) (hlo : lo < hi) (hhi : hi ≤ w.heap.size) (hl : L.length ≤ 1000000000) :
    Calls Try.prog 24 #[.agg #[.int .i64 c, v], .int .i64 1] w fun e w' => e = .returned (.int .i64 (1 + L.length)) ∧ IntsB w' lo hi v (counted L.length 1) ∧ ∃ b, lo ≤ b ∧ b < hi ∧ Mut b w w' := by
  have x0 : Ext w (w.alloc (.cells #[.int .i64 c, v] 32)) := (Ext.refl w).alloc _ _
  have X0 := hide x0
  have H := hide (h.below x0.bl hhi)
  have F : Hid (∀ b o, lo ≤ b → b < hi → (w.alloc (.cells #[.int .i64 c, v] 32)).frozen? ⟨b, o, none⟩ = false) := fun b o h1 h2 => (x0.fz _).trans (hf b o h1 h2)
  obtain ⟨sa, cap, rfl, _⟩ := h
  clear x0 hf
  go_enter Try.func24, Try.ntmps24
  go_wp2_with fail
  refine (markB_any H.out F.out hlo 1 (by omega) (by omega)).mono ?_
  rintro e w1 ⟨rfl, h1, b, hb1, hb2, hm⟩
  have H1 := hide h1
  have HM := hide hm
  clear h1 hm
  go_wp2
  go_ret
  exact ⟨rfl, H1.out, b, hb1, hb2, (X0.out.mut b).trans HM.out⟩

set_option maxRecDepth 100000 in
set_option maxHeartbeats 2000000 in
theorem heldSR_any {w : World} {c : Int} {v : Value} {n : Nat} (h : Ints w v (counted n 1)) (hl : n ≤ 1000000000) :
    Calls Try.prog 25 #[.agg #[.int .i64 c, v], .int .i64 1] w fun e w' => e = .returned (.int .i64 (1 + n)) ∧ Ext w w' := by
  have x0 : Ext w (w.alloc (.cells #[.int .i64 c, v] 32)) := (Ext.refl w).alloc _ _
  have X0 := hide x0
  have H := hide (h.ext x0)
  obtain ⟨sa, cap, rfl, _⟩ := h
  clear x0
  go_enter Try.func25, Try.ntmps25
  go_wp2_with fail
  refine (heldInts_any 1 H.out (by omega) (by omega)).mono ?_
  rintro e w1 ⟨rfl, rfl⟩
  go_wp2
  go_ret
  exact ⟨rfl, X0.out⟩
end Go.Proofs.Ytiekkninnjffpaa
namespace Go.Proofs.Ytiekkninnjffpaa
open Go.ChangeShapes Go.RowKit
set_option linter.unusedSimpArgs false
set_option linter.unusedVariables false

/-- Blocks that were there are as before. -/
abbrev Bel (w w' : World) : Prop := Below w.heap.size w w'
theorem Bel.box {w w' : World} (x : Bel w w') {b o : Nat} {v : Value} (h : w.cell? ⟨b, o, none⟩ = some v) : w'.cell? ⟨b, o, none⟩ = some v := (Below.cell x (p := ⟨b, o, none⟩) (cell_lt h)).trans h
theorem Bel.tr {a b c : World} (x : Bel a b) (y : Bel b c) : Bel a c := Below.trans x (Below.mono y (Below.size x))

/-- Of what was there, blocks lo to hi alone may have turned. -/
structure MIn (lo hi : Nat) (w w' : World) : Prop where
  bl : Below lo w w'
  box : ∀ k o v, (k < lo ∨ hi ≤ k) → w.cell? ⟨k, o, none⟩ = some v → w'.cell? ⟨k, o, none⟩ = some v
  fz : ∀ a, w'.frozen? a = w.frozen? a
theorem Mut.mIn {lo hi b : Nat} {w w' : World} (m : Mut b w w') (h1 : lo ≤ b) (h2 : b < hi) (hl : lo ≤ w.heap.size) : MIn lo hi w w' :=
  ⟨⟨m.os, m.tape, m.output, m.size, fun j hj => m.block j (Nat.lt_of_lt_of_le hj hl) (by omega)⟩, fun k o v hk hc => m.box (by omega) hc, m.fz⟩
theorem Ext.mIn {lo hi : Nat} {w w' : World} (x : Ext w w') (hl : lo ≤ w.heap.size) : MIn lo hi w w' :=
  ⟨⟨x.bl.os, x.bl.tape, x.bl.output, x.bl.size, fun j hj => x.bl.block j (Nat.lt_of_lt_of_le hj hl)⟩, fun k o v hk hc => x.box hc, x.fz⟩
theorem IntsB.mIn {w w' : World} {lo hi l h : Nat} {v : Value} {L : List Int} (a : IntsB w l h v L) (x : MIn lo hi w w') (hb : h ≤ lo ∨ hi ≤ l) : IntsB w' l h v L := by
  obtain ⟨sa, cap, rfl, a⟩ := a
  refine ⟨sa, cap, rfl, ?_⟩
  rcases a with a | ⟨c, off, h1, h2, h3, h4⟩
  · exact Or.inl a
  · exact Or.inr ⟨c, off, h1, h2, h3, fun j hj => x.box _ _ _ (by omega) (h4 j hj)⟩
theorem IntsB.keep {w w' : World} {lo hi : Nat} {v : Value} {L : List Int} (h : IntsB w lo hi v L) (x : Bel w w') : IntsB w' lo hi v L := by
  obtain ⟨sa, cap, rfl, h⟩ := h
  refine ⟨sa, cap, rfl, ?_⟩
  rcases h with h | ⟨b, off, h1, h2, h3, h4⟩
  · exact Or.inl h
  · exact Or.inr ⟨b, off, h1, h2, h3, fun j hj => x.box (h4 j hj)⟩
theorem Ints.bound {w : World} {v : Value} {L : List Int} (h : Ints w v L) : IntsB w 0 w.heap.size v L := by
  obtain ⟨sa, cap, rfl, h⟩ := h
  refine ⟨sa, cap, rfl, ?_⟩
  rcases h with h | ⟨b, off, h1, h2⟩
  · exact Or.inl h
  · by_cases e : L = []
    · exact Or.inl e
    · have hl : 0 < L.length := List.length_pos_iff.2 e
      exact Or.inr ⟨b, off, h1, Nat.zero_le _, cell_lt (h2 0 hl), h2⟩

/-- The block of a slice is not frozen. -/
def FZ (w : World) (v : Value) (L : List Int) : Prop := L = [] ∨ ∃ b off n cap, v = .slice (some ⟨b, off, none⟩) n cap ∧ b < w.heap.size ∧ ∀ o, w.frozen? ⟨b, o, none⟩ = false
theorem FZ.keep {w w' : World} {v : Value} {L : List Int} (h : FZ w v L) (x : Bel w w') : FZ w' v L := by
  rcases h with h | ⟨b, off, n, cap, h1, h2, h3⟩
  · exact Or.inl h
  · exact Or.inr ⟨b, off, n, cap, h1, Nat.lt_of_lt_of_le h2 (Below.size x), fun o => (Below.frozen x (p := ⟨b, o, none⟩) h2).trans (h3 o)⟩
theorem FZ.mIn {w w' : World} {lo hi : Nat} {v : Value} {L : List Int} (h : FZ w v L) (x : MIn lo hi w w') : FZ w' v L := by
  rcases h with h | ⟨b, off, n, cap, h1, h2, h3⟩
  · exact Or.inl h
  · exact Or.inr ⟨b, off, n, cap, h1, Nat.lt_of_lt_of_le h2 (Below.size x.bl), fun o => (x.fz _).trans (h3 o)⟩

theorem markB2 {w : World} {lo hi : Nat} {v : Value} {L : List Int} (h : IntsB w lo hi v L) (hf : FZ w v L) (hlo : lo ≤ w.heap.size) (k : Int) (hk : 0 ≤ k ∧ k ≤ 1000000000000) (hl : L.length ≤ 1000000000000) :
    Calls Try.prog 23 #[v, .int .i64 k] w fun e w' => e = .returned (.int .i64 (k + L.length)) ∧ IntsB w' lo hi v (counted L.length k) ∧ MIn lo hi w w' := by
  obtain ⟨sa, cap, rfl, h⟩ := h
  by_cases he : L = []
  · subst he
    refine (markInts_nil k).mono ?_
    rintro e w' ⟨rfl, rfl⟩
    exact ⟨by simp, ⟨sa, cap, by rw [counted_len], Or.inl rfl⟩, (Ext.refl _).mIn hlo⟩
  · rcases h with h | ⟨b, off, rfl, h1, h2, h3⟩
    · exact absurd h he
    rcases hf with h | ⟨b2, off2, n2, cap2, e2, _, hf⟩
    · exact absurd h he
    simp only [Value.slice.injEq, Option.some.injEq, Addr.mk.injEq] at e2
    obtain ⟨⟨rfl, rfl, _⟩, rfl, rfl⟩ := e2
    refine (markInts_any h3 hf k hk hl).mono ?_
    rintro e w' ⟨rfl, hr, hm⟩
    exact ⟨rfl, ⟨_, cap, by rw [counted_len], Or.inr ⟨b, off, rfl, h1, h2, hr⟩⟩, hm.mIn h1 h2 hlo⟩

set_option maxRecDepth 100000 in
set_option maxHeartbeats 2000000 in
theorem markSR2 {w : World} {lo hi : Nat} {c : Int} {v : Value} {L : List Int} (h : IntsB w lo hi v L) (hf : FZ w v L) (hlo : lo ≤ w.heap.size) (hhi : hi ≤ w.heap.size) (hl : L.length ≤ 1000000000) :
    Calls Try.prog 24 #[.agg #[.int .i64 c, v], .int .i64 1] w fun e w' => e = .returned (.int .i64 (1 + L.length)) ∧ IntsB w' lo hi v (counted L.length 1) ∧ MIn lo hi w w' := by
  have x0 : Ext w (w.alloc (.cells #[.int .i64 c, v] 32)) := (Ext.refl w).alloc _ _
  have X0 := hide (x0.mIn (lo := lo) (hi := hi) hlo)
  have H := hide (h.keep x0.bl)
  have F := hide (hf.keep x0.bl)
  have hlo2 : Hid (lo ≤ (w.alloc (.cells #[.int .i64 c, v] 32)).heap.size) := Nat.le_trans hlo (Below.size x0.bl)
  obtain ⟨sa, cap, rfl, _⟩ := h
  clear x0 hf
  go_enter Try.func24, Try.ntmps24
  go_wp2_with fail
  refine (markB2 H.out F.out hlo2.out 1 (by omega) (by omega)).mono ?_
  rintro e w1 ⟨rfl, h1, hm⟩
  have H1 := hide h1
  have HM := hide hm
  clear h1 hm
  go_wp2
  go_ret
  exact ⟨rfl, H1.out, ⟨X0.out.bl.trans HM.out.bl, fun k o v hk hc => HM.out.box k o v hk (X0.out.box k o v hk hc), fun a => (HM.out.fz a).trans (X0.out.fz a)⟩⟩
end Go.Proofs.Ytiekkninnjffpaa
namespace Go.Proofs.Ytiekkninnjffpaa
open Go.ChangeShapes Go.RowKit
set_option linter.unusedSimpArgs false
set_option linter.unusedVariables false

set_option maxRecDepth 100000 in
set_option maxHeartbeats 2000000 in
theorem places_end {w : World} {vS vT : Value} {xs : List Int} (hS : Ints w vS xs) (off at_ : Int) (axis : Nat) (ha : axis = xs.length) :
    Calls Try.prog 52 #[.agg #[vS, vT, .int .i64 off], .int .i64 axis, .int .i64 at_] w fun e w' => ListOk w [at_] e w' := by
  obtain ⟨sa, cap, rfl, _⟩ := hS
  subst ha
  go_enter Try.func52, Try.ntmps52
  go_wp2
  go_ret
  have n2 := fun j => new_cell (w.alloc (.cells #[.slice sa xs.length cap, vT, .int .i64 off] 27)) #[.int .i64 at_] 2 (w.heap.size + 1) (by simp) j
  have e1 : Ext w ((w.alloc (.cells #[.slice sa xs.length cap, vT, .int .i64 off] 27)).alloc (.cells #[.int .i64 at_] 2)) := ((Ext.refl w).alloc _ _).alloc _ _
  refine ⟨some ⟨w.heap.size + 1, 0, none⟩, 1, rfl, Or.inr ⟨w.heap.size + 1, rfl, by omega, fun j hj => ?_, fun o => e1.unfrozen (by omega) o⟩, e1.bl⟩
  obtain rfl : j = 0 := by simp at hj; omega
  exact n2 0

/-- How many places there are. -/
def plen : List Int → Nat
  | [] => 1
  | n :: ns => n.toNat * plen ns
theorem plen_pos : ∀ (xs : List Int), (∀ n ∈ xs, 1 ≤ n) → 1 ≤ plen xs
  | [], _ => by simp [plen]
  | n :: ns, h => by
    have h1 := plen_pos ns (fun m hm => h m (by simp [hm]))
    have h2 : 1 ≤ n := h n (by simp)
    simp only [plen]
    exact Nat.mul_pos (by omega) h1
theorem places_len : ∀ (xs ss : List Int) (at_ : Int), xs.length = ss.length → (places xs ss at_).length = plen xs
  | [], ss, at_, _ => by simp [places, plen]
  | n :: ns, [], at_, h => by simp at h
  | n :: ns, s :: ss, at_, h => by
    simp only [places, plen]
    have : ∀ k : Nat, ((List.range k).flatMap fun (i : Nat) => places ns ss (at_ + (i : Int) * s)).length = k * plen ns := fun k => by
      induction k with
      | zero => simp
      | succ k ih => rw [List.range_succ, List.flatMap_append, List.length_append, ih]; simp [places_len ns ss _ (by simpa using h)]; rw [Nat.succ_mul]
    exact this _

theorem own_keep {w w' : World} {base n : Nat} {v : Value} {L : List Value} (h : w.ownsRow base 2 1 v n L) (x : Bel w w') : w'.ownsRow base 2 1 v n L :=
  h.kept (row := none) ⟨Below.os x, Below.tape x, Below.output x, Below.size x, fun k hk _ => Below.block x k hk⟩ (by
    rcases h.2 with ⟨rfl, _⟩ | ⟨g, cap, cur, rfl, _⟩
    · exact Or.inl rfl
    · right; simp [Value.ownBlock])

/-- The world of the loop. -/
structure PS (w wr : World) (vS vT : Value) (off : Int) (L : List Int) (v : Value) : Prop where
  own : wr.ownsRow (w.heap.size + 1) 2 1 v L.length (L.map (Value.int .i64))
  nn : ∃ g cap, v = .slice (some ⟨g, 0, none⟩) L.length cap
  bl : Below w.heap.size w wr
  p0 : wr.cell? ⟨w.heap.size, 0, none⟩ = some vS
  p1 : wr.cell? ⟨w.heap.size, 1, none⟩ = some vT
  p2 : wr.cell? ⟨w.heap.size, 2, none⟩ = some (.int .i64 off)
  sz : w.heap.size + 1 ≤ wr.heap.size

theorem PS.start (w : World) (vS vT : Value) (off : Int) : PS w ((w.alloc (.cells #[vS, vT, .int .i64 off] 27)).alloc (.cells #[] 2)) vS vT off [] (.slice (some ⟨w.heap.size + 1, 0, none⟩) 0 0) := by
  have e1 : Ext w ((w.alloc (.cells #[vS, vT, .int .i64 off] 27)).alloc (.cells #[] 2)) := ((Ext.refl w).alloc _ _).alloc _ _
  have e2 : Ext (w.alloc (.cells #[vS, vT, .int .i64 off] 27)) ((w.alloc (.cells #[vS, vT, .int .i64 off] 27)).alloc (.cells #[] 2)) := (Ext.refl _).alloc _ _
  have n1 := fun j => new_cell w #[vS, vT, .int .i64 off] 27 w.heap.size rfl j
  refine ⟨?_, ⟨_, _, rfl⟩, e1.bl, e2.box (n1 0), e2.box (n1 1), e2.box (n1 2), by simp⟩
  have := World.ownsRow_made (base := w.heap.size + 1) (e := 2) (size := 1) (w.alloc (.cells #[vS, vT, .int .i64 off] 27)) #[] 0 (by simp) (by unfold maxLen; omega) rfl
  simpa using this

theorem PS.keep {w wr w2 : World} {vS vT v : Value} {off : Int} {L : List Int} (h : PS w wr vS vT off L v) (x : Bel wr w2) : PS w w2 vS vT off L v :=
  ⟨own_keep h.own x, h.nn, h.bl.trans (Below.mono x (Below.size h.bl)), x.box h.p0, x.box h.p1, x.box h.p2, Nat.le_trans h.sz (Below.size x)⟩

theorem PS.step {w wr w3 : World} {vS vT v : Value} {off : Int} {L M : List Int} (h : PS w wr vS vT off L v) {g cap : Nat}
    (hown : w3.ownsRow (w.heap.size + 1) 2 1 (.slice (some ⟨g, 0, none⟩) (L.length + M.length) cap) (L.length + M.length) (L.map (Value.int .i64) ++ M.map (Value.int .i64))) (hgrow : World.grownBy wr w3 v.ownBlock) :
    PS w w3 vS vT off (L ++ M) (.slice (some ⟨g, 0, none⟩) (L.length + M.length) cap) := by
  have hs := h.sz
  obtain ⟨g0, cap0, rfl⟩ := h.nn
  have hg : w.heap.size + 1 ≤ g0 := (h.own.lt g0 rfl).1
  have hcell : ∀ o, w3.cell? ⟨w.heap.size, o, none⟩ = wr.cell? ⟨w.heap.size, o, none⟩ := fun o => by
    rw [World.cell?_of_block (hgrow.block w.heap.size (by omega) (by simp [Value.ownBlock]; omega))]
  refine ⟨by simpa using hown, ⟨g, cap, by simp⟩, h.bl.grown hgrow (by omega) (fun j hj => by simp [Value.ownBlock] at hj; omega), (hcell 0).trans h.p0, (hcell 1).trans h.p1, (hcell 2).trans h.p2, ?_⟩
  have := hgrow.size
  omega
end Go.Proofs.Ytiekkninnjffpaa
namespace Go.Proofs.Ytiekkninnjffpaa
open Go.ChangeShapes Go.RowKit
set_option linter.unusedSimpArgs false
set_option linter.unusedVariables false

/-- What the loads of the region read. -/
structure RS (w wr : World) (vS vT : Value) (off : Int) (b o : Nat) (s : Int) : Prop where
  p0 : wr.cell? ⟨w.heap.size, 0, none⟩ = some vS
  p1 : wr.cell? ⟨w.heap.size, 1, none⟩ = some vT
  p2 : wr.cell? ⟨w.heap.size, 2, none⟩ = some (.int .i64 off)
  st : wr.cell? ⟨b, o, none⟩ = some (.int .i64 s)

theorem RS.keep {w wr w2 : World} {vS vT : Value} {off : Int} {b o : Nat} {s : Int} (h : RS w wr vS vT off b o s) (x : Bel wr w2) : RS w w2 vS vT off b o s := ⟨x.box h.p0, x.box h.p1, x.box h.p2, x.box h.st⟩
theorem bel_drew (w : World) : Bel w w.drew := (Below.refl _ _).drew
theorem own_some {w' : World} {lo : Nat} {sa : Option Addr} {L : List Int} (h : OwnI w' lo sa L) (hL : 1 ≤ L.length) : ∃ g, sa = some ⟨g, 0, none⟩ ∧ Row w' g 0 L := by
  rcases h with rfl | ⟨g, h1, _, h3, _⟩
  · simp at hL
  · exact ⟨g, h1, h3⟩
theorem row_news {w : World} {g : Nat} {L : List Int} (h : Row w g 0 L) : ∀ j u, (L.map (Value.int .i64))[j]? = some u → w.cell? ((⟨g, 0, none⟩ : Addr).add j) = some u := by
  intro j u hu
  have hj : j < L.length := by
    have := (List.getElem?_eq_some_iff.1 hu).1
    simpa using this
  have e : L[j]? = some (L.getD j 0) := by simp [List.getD_eq_getElem?_getD, hj]
  rw [List.getElem?_map, e] at hu
  simp only [Option.map_some, Option.some.injEq] at hu
  subst hu
  rw [Addr.add_lit]
  exact h j hj
theorem one_cells (L : List Int) : ∀ u ∈ L.map (Value.int .i64), u.oneCell' = true := by
  intro x hx
  simp at hx
  obtain ⟨y, _, rfl⟩ := hx
  rfl
theorem PS.own2 {w wr : World} {vS vT : Value} {off : Int} {L : List Int} {g0 l c0 : Nat} (h : PS w wr vS vT off L (.slice (some ⟨g0, 0, none⟩) l c0)) (hl : L.length = l) : wr.ownsRow (w.heap.size + 1) 2 1 (.slice (some ⟨g0, 0, none⟩) l c0) l (L.map (Value.int .i64)) := by
  subst hl; exact h.own
theorem PS.step2 {w wr w3 : World} {vS vT : Value} {off : Int} {L M : List Int} {g0 l c0 m : Nat} (h : PS w wr vS vT off L (.slice (some ⟨g0, 0, none⟩) l c0)) (hl : L.length = l) (hm : M.length = m) {g cap : Nat}
    (hown : w3.ownsRow (w.heap.size + 1) 2 1 (.slice (some ⟨g, 0, none⟩) (l + m) cap) (l + m) (L.map (Value.int .i64) ++ M.map (Value.int .i64))) (hgrow : World.grownBy wr w3 (Value.slice (some ⟨g0, 0, none⟩) l c0).ownBlock) :
    PS w w3 vS vT off (L ++ M) (.slice (some ⟨g, 0, none⟩) (l + m) cap) := by
  subst hl
  subst hm
  exact h.step hown hgrow
theorem map_len {M : List Int} {m : Nat} (hm : M.length = m) : (M.map (Value.int .i64)).length = m * 1 := by simp [hm]
theorem flat_len (F : Int → List Int) (M : Nat) (hF : ∀ i, (F i).length = M) (at_ s : Int) (k : Nat) : ((List.range k).flatMap fun (i : Nat) => F (at_ + (i : Int) * s)).length = k * M := by
  induction k with
  | zero => simp
  | succ k ih => rw [List.range_succ, List.flatMap_append, List.length_append, ih]; simp [hF]; rw [Nat.succ_mul]

set_option maxRecDepth 100000 in
set_option maxHeartbeats 500000 in
theorem places_step {w : World} {vS vT : Value} {xs ss : List Int} (hS : Ints w vS xs) (hT : Ints w vT ss) (off at_ : Int) (axis : Nat) (ha : axis < xs.length) (h4 : xs.length ≤ 4) (hl : xs.length = ss.length)
    (n s : Int) (hn : n = xs.getD axis 0) (hs : s = ss.getD axis 0) (hn1 : 1 ≤ n ∧ n ≤ 4096) (hs1 : -4096 ≤ s ∧ s ≤ 4096) (hat : -100000000 ≤ at_ ∧ at_ ≤ 100000000)
    (F : Int → List Int) (M : Nat) (hM : 1 ≤ M) (hF : ∀ i, (F i).length = M) (hnM : n.toNat * M ≤ 4096)
    (ih : ∀ (W : World) (p : Int), Bel w W → at_ - 16777216 ≤ p ∧ p ≤ at_ + 16777216 → Calls Try.prog 52 #[.agg #[vS, vT, .int .i64 off], .int .i64 ((axis : Int) + 1), .int .i64 p] W fun e w' => ListOk W (F p) e w') :
    Calls Try.prog 52 #[.agg #[vS, vT, .int .i64 off], .int .i64 axis, .int .i64 at_] w fun e w' => ListOk w ((List.range n.toNat).flatMap fun (i : Nat) => F (at_ + (i : Int) * s)) e w' := by
  obtain ⟨i0, hi0, hz0, hz1, hz2⟩ := info_parts info2
  obtain ⟨sa, cap, rfl, hS⟩ := hS
  obtain ⟨ta, dap, rfl, hT⟩ := hT
  rcases hS with h0 | ⟨bS, oS, rfl, rowS⟩
  · rw [h0] at ha; simp at ha
  rcases hT with h0 | ⟨bT, oT, rfl, rowT⟩
  · rw [hl, h0] at ha; simp at ha
  have cS := rowS axis ha
  have cT := rowT axis (by omega)
  rw [← hn] at cS
  rw [← hs] at cT
  have IH := hide ih
  have HFl := hide hF
  have HL := hide hl
  have hne : ((axis : Int) == (xs.length : Int)) = false := by simp; omega
  have ha0 : (0 : Int) ≤ (axis : Int) := Int.natCast_nonneg _
  have ha1 : (axis : Int) < (xs.length : Int) := by omega
  have ha2 : (axis : Int) < (ss.length : Int) := by omega
  clear hn hs rowS rowT ih hF hl
  have S0 := hide (PS.start w (.slice (some ⟨bS, oS, none⟩) xs.length cap) (.slice (some ⟨bT, oT, none⟩) ss.length dap) off)
  go_enter Try.func52, Try.ntmps52
  go_wp2
  go_loopw [7, 8] (fun o i wr => ∃ k : Nat, i = .int .i64 k ∧ k ≤ n.toNat ∧ PS w wr (.slice (some ⟨bS, oS, none⟩) xs.length cap) (.slice (some ⟨bT, oT, none⟩) ss.length dap) off ((List.range k).flatMap fun (i : Nat) => F (at_ + (i : Int) * s)) o) (fun o i _ => n.toNat - (intOf i).toNat)
  case atStart => exact ⟨0, rfl, by omega, by simpa using S0.out⟩
  case round =>
    obtain ⟨k, rfl, hk, hP⟩ := hrel
    have HP := hide hP
    have p0 := hP.p0
    have p1 := hP.p1
    have p2 := hP.p2
    have qS := Bel.box hP.bl cS
    have qT := Bel.box hP.bl cT
    have hszr := hP.sz
    clear hP
    by_cases hlt : k < n.toNat
    · have hkn : (k : Int) < n := by omega
      have hms : -16777216 ≤ (k : Int) * s ∧ (k : Int) * s ≤ 16777216 := by
        have := mul_between (k : Int) n s (by omega) (by omega)
        have h1 : -16777216 ≤ s * (n - 1) ∧ s * (n - 1) ≤ 16777216 := by
          have := mul_between (n - 1) 4096 s (by omega) (by omega)
          rw [Int.mul_comm s (n - 1)]
          omega
        omega
      have hkM : k * M + M ≤ 4096 := by
        have h1 : (k + 1) * M ≤ n.toNat * M := Nat.mul_le_mul_right M hlt
        rw [Nat.succ_mul] at h1
        omega
      have hLl := flat_len F M HFl.out at_ s k
      have hFp := HFl.out (at_ + (k : Int) * s)
      have hsucc : ((List.range (k + 1)).flatMap fun (i : Nat) => F (at_ + (i : Int) * s)) = ((List.range k).flatMap fun (i : Nat) => F (at_ + (i : Int) * s)) ++ F (at_ + (k : Int) * s) := by
        rw [List.range_succ, List.flatMap_append]; simp
      have HIH := hide (IH.out wr.drew (at_ + (k : Int) * s) (Bel.tr HP.out.bl (bel_drew wr)) (by omega))
      have hwa : IntKind.i64.wrap ((axis : Int) + 1) = (axis : Int) + 1 := by rw [IntKind.wrap_i64]; omega
      have hwm : IntKind.i64.wrap ((k : Int) * s) = (k : Int) * s := by rw [IntKind.wrap_i64]; omega
      have hwp : IntKind.i64.wrap (at_ + (k : Int) * s) = at_ + (k : Int) * s := by rw [IntKind.wrap_i64]; omega
      obtain ⟨g0, c0, hv⟩ := HP.out.nn
      subst hv
      generalize hFF : F (at_ + (k : Int) * s) = FF at HIH hFp hsucc
      generalize hLL : ((List.range k).flatMap fun (i : Nat) => F (at_ + (i : Int) * s)) = LL at HP hLl hsucc ⊢
      have Hsucc := hide hsucc
      clear hsucc hFF hLL
      have HPd := hide (HP.out.keep (bel_drew wr))
      have HD : Hid (RS w wr.drew (.slice (some ⟨bS, oS, none⟩) xs.length cap) (.slice (some ⟨bT, oT, none⟩) ss.length dap) off bT (oT + axis) s) := RS.keep ⟨p0, p1, p2, qT⟩ (bel_drew wr)
      rw [hLl] at HPd ⊢
      have hB63 : k * M + M ≤ maxLen := by unfold maxLen; omega
      have hB8 : (k * M + M) * 8 ≤ 140737488355328 := by omega
      have hM0 : 0 < M := hM
      have hone : 0 < 1 := Nat.one_pos
      go_wp2_with fail
      go_region_held3 (fun w' => w'.cell? ⟨w.heap.size, 0, none⟩ = some (.slice (some ⟨bS, oS, none⟩) xs.length cap) ∧ w'.cell? ⟨w.heap.size, 1, none⟩ = some (.slice (some ⟨bT, oT, none⟩) ss.length dap) ∧ w'.cell? ⟨w.heap.size, 2, none⟩ = some (.int .i64 off) ∧ w'.cell? ⟨bT, oT + axis, none⟩ = some (.int .i64 s)) (first | exact ⟨HD.out.p0, HD.out.p1, HD.out.p2, HD.out.st⟩ | exact ⟨HE4.out.p0, HE4.out.p1, HE4.out.p2, HE4.out.st⟩ | exact ⟨HF5.out.p0, HF5.out.p1, HF5.out.p2, HF5.out.st⟩) (first | (go_at_call 52; refine HIH.out.mono ?_; rintro e w4 ⟨sb, cb, rfl, hO, hB4⟩; obtain ⟨g, rfl, hrow⟩ := own_some hO (by omega); have HE4 := hide (HD.out.keep hB4); have HP4 := hide (HPd.out.keep hB4); have Hrow := hide hrow; have hsz4 := HP4.out.sz; rw [hFp]; clear hO hB4 hrow) | (refine step_append_lies _ (by rfl) (.tmp 26) (.tmp 39) 22 (by rfl) (w.heap.size + 1) 2 i0 (.int .i64 0) 1 8 Try.underlying22 hi0 hz0 hz1 hz2 rfl hone (.slice (some ⟨g0, 0, none⟩) (k * M) c0) (k * M) (LL.map (Value.int .i64)) (by rfl) (HP4.out.own2 hLl) ⟨g, 0, none⟩ M cb (FF.map (Value.int .i64)) (by rfl) (map_len hFp) (row_news Hrow.out) (one_cells FF) hM0 hB63 hB8 hsz4 w4.heap.size rfl ?_; intro g2 cap2 w5 hown5 hgrow5 hat5 hlt5; have HPS := hide (HP4.out.step2 hLl hFp hown5 hgrow5); have HF5 : Hid (RS w w5 (.slice (some ⟨bS, oS, none⟩) xs.length cap) (.slice (some ⟨bT, oT, none⟩) ss.length dap) off bT (oT + axis) s) := ⟨HPS.out.p0, HPS.out.p1, HPS.out.p2, Bel.box HPS.out.bl cT⟩))
      go_wp2
      go_roundw
      · exact ⟨k + 1, by go_num, by omega, by rw [Hsucc.out]; exact HPS.out⟩
      · simp [intOf]; omega
    · have hkk : k = n.toNat := by omega
      subst hkk
      have hnk : ¬ ((n.toNat : Nat) : Int) < n := by omega
      have HO := hide (own_of (w := w) (by omega) HP.out.own)
      have HBl := hide HP.out.bl
      clear HP
      go_wp2
      go_ret
      obtain ⟨sx, cx, hv, ho⟩ := HO.out
      subst hv
      exact ⟨sx, cx, rfl, ho, HBl.out⟩

theorem drop_cons (xs : List Int) (k : Nat) (hk : k < xs.length) : xs.drop k = xs.getD k 0 :: xs.drop (k + 1) := by
  rw [List.drop_eq_getElem_cons hk, List.getD_eq_getElem?_getD, List.getElem?_eq_getElem hk]; rfl

set_option maxRecDepth 100000 in
/-- l2Places: the places. -/
theorem places_any (xs ss : List Int) (hl : xs.length = ss.length) (h4 : xs.length ≤ 4) (h1 : ∀ n ∈ xs, 1 ≤ n ∧ n ≤ 4096) (hs : ∀ s ∈ ss, -4096 ≤ s ∧ s ≤ 4096) (off : Int) (vS vT : Value) :
    ∀ (r axis : Nat), axis + r = xs.length → ∀ (w : World) (at_ : Int), Ints w vS xs → Ints w vT ss → plen (xs.drop axis) ≤ 4096 → (-8192 - (axis : Int) * 16777216 ≤ at_ ∧ at_ ≤ 8192 + (axis : Int) * 16777216) →
      Calls Try.prog 52 #[.agg #[vS, vT, .int .i64 off], .int .i64 axis, .int .i64 at_] w fun e w' => ListOk w (places (xs.drop axis) (ss.drop axis) at_) e w' := by
  intro r
  induction r with
  | zero =>
    intro axis ha w at_ hS hT hp hb
    have e : xs.drop axis = [] := List.drop_eq_nil_of_le (by omega)
    rw [e]
    exact places_end hS off at_ axis (by omega)
  | succ r ih =>
    intro axis ha w at_ hS hT hp hb
    have hax : axis < xs.length := by omega
    have ex := drop_cons xs axis hax
    have es := drop_cons ss axis (by omega)
    have hmx : xs.getD axis 0 ∈ xs := by rw [List.getD_eq_getElem?_getD, List.getElem?_eq_getElem hax]; exact List.getElem_mem _
    have hms : ss.getD axis 0 ∈ ss := by rw [List.getD_eq_getElem?_getD, List.getElem?_eq_getElem (by omega)]; exact List.getElem_mem _
    have hn := h1 _ hmx
    have hp2 : plen (xs.drop axis) = (xs.getD axis 0).toNat * plen (xs.drop (axis + 1)) := by rw [ex]; rfl
    have hpos : 1 ≤ plen (xs.drop (axis + 1)) := plen_pos _ (fun m hm => (h1 m (List.mem_of_mem_drop hm)).1)
    have hple : plen (xs.drop (axis + 1)) ≤ 4096 := by
      refine Nat.le_trans ?_ hp
      rw [hp2]
      exact Nat.le_mul_of_pos_left _ (by omega)
    have hdl : (xs.drop (axis + 1)).length = (ss.drop (axis + 1)).length := by rw [List.length_drop, List.length_drop, hl]
    have hst := places_step hS hT off at_ axis hax h4 hl (xs.getD axis 0) (ss.getD axis 0) rfl rfl hn (hs _ hms) (by omega) (places (xs.drop (axis + 1)) (ss.drop (axis + 1))) (plen (xs.drop (axis + 1))) hpos (fun i => places_len _ _ _ hdl) (by rw [← hp2]; exact hp)
      (fun W p hW hpb => by
        have := ih (axis + 1) (by omega) W p (hS.below hW) (hT.below hW) hple (by omega)
        rw [show ((axis + 1 : Nat) : Int) = (axis : Int) + 1 by omega] at this
        exact this)
    rw [ex, es]
    exact hst
end Go.Proofs.Ytiekkninnjffpaa
