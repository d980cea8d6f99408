import Derived.Test.YtfhcpicddegblaaGreatM11
import Derived.Test.YtfhcpicddegblaaGreatM11
import Derived.Test.YtfhcpicddegblaaGreatM8
import Derived.Test.YtfhcpicddegblaaGreatM11
import Derived.Test.YtfhcpicddegblaaGreatM11
import Derived.Test.YtfhcpicddegblaaGreatM11
import Derived.BigRegion
namespace Go.Proofs.YtfhcpicddegblaaGreat
open Go.ChangeShapes Go.RowKit FL
set_option linter.unusedSimpArgs false
set_option linter.unusedVariables false

theorem new_celld (W : World) (X : Array Value) (t : TypeId) (j : Nat) : (W.alloc (.cells X t)).drew.cell? ⟨W.heap.size, 0 + j, none⟩ = X[j]? := by
  rw [Nat.zero_add]
  exact new_cell W X t _ rfl j
theorem new_cellp (W : World) (X : Array Value) (t : TypeId) (j : Nat) : (W.alloc (.cells X t)).cell? ⟨W.heap.size, 0 + j, none⟩ = X[j]? := by
  rw [Nat.zero_add]
  exact new_cell W X t _ rfl j
attribute [local go_sem] eq79
set_option maxRecDepth 100000 in
set_option maxHeartbeats 8000000 in
theorem iSolve_any {w : World} {v va vb vo : Value} {ss : List St} {a b o : Ar} (h : SV w v ss) (hg : SG ss) (hl : SL ss 1048576) (ha : AV w va a) (hb : AV w vb b) (ho : AV w vo o) :
    Calls Tryz.prog 11 #[.agg #[v], va, vb, vo] w fun e w' => IsOk w ss a b o e w' := by
  obtain ⟨sa, cap, rfl, hx⟩ := h
  have h : SV w (.slice sa ss.length cap) ss := ⟨sa, cap, rfl, hx⟩
  obtain ⟨p1, c1, q1, d1, rfl, ia1, ia2, la⟩ := ha
  obtain ⟨p2, c2, q2, d2, rfl, ib1, ib2, lb⟩ := hb
  obtain ⟨p3, c3, q3, d3, rfl, io1, io2, lo⟩ := ho
  have BX0 := SBx.start w (.slice sa ss.length cap) [.int .i64 a.st, .slice p1 a.xs.length c1, .slice q1 a.sv.length d1, .int .i64 a.off] [.int .i64 b.st, .slice p2 b.xs.length c2, .slice q2 b.sv.length d2, .int .i64 b.off] [.int .i64 o.st, .slice p3 o.xs.length c3, .slice q3 o.sv.length d3, .int .i64 o.off]
  have AR := arow3 (B := w.heap.size + 5) (W := (((((w.alloc (.cells #[.slice sa ss.length cap] 34)).alloc (.cells #[.int .i64 a.st, .slice p1 a.xs.length c1, .slice q1 a.sv.length d1, .int .i64 a.off] 41)).alloc (.cells #[.int .i64 b.st, .slice p2 b.xs.length c2, .slice q2 b.sv.length d2, .int .i64 b.off] 41)).alloc (.cells #[.int .i64 o.st, .slice p3 o.xs.length c3, .slice q3 o.sv.length d3, .int .i64 o.off] 41)).alloc (.cells #[.int .i64 0, .slice none 0 0] 36))) (by simp) ia1 ia2 ib1 ib2 io1 io2 BX0.bl
  have HH := hide h
  have xr : Ext (((((w.alloc (.cells #[.slice sa ss.length cap] 34)).alloc (.cells #[.int .i64 a.st, .slice p1 a.xs.length c1, .slice q1 a.sv.length d1, .int .i64 a.off] 41)).alloc (.cells #[.int .i64 b.st, .slice p2 b.xs.length c2, .slice q2 b.sv.length d2, .int .i64 b.off] 41)).alloc (.cells #[.int .i64 o.st, .slice p3 o.xs.length c3, .slice q3 o.sv.length d3, .int .i64 o.off] 41)).alloc (.cells #[.int .i64 0, .slice none 0 0] 36)) (((((((w.alloc (.cells #[.slice sa ss.length cap] 34)).alloc (.cells #[.int .i64 a.st, .slice p1 a.xs.length c1, .slice q1 a.sv.length d1, .int .i64 a.off] 41)).alloc (.cells #[.int .i64 b.st, .slice p2 b.xs.length c2, .slice q2 b.sv.length d2, .int .i64 b.off] 41)).alloc (.cells #[.int .i64 o.st, .slice p3 o.xs.length c3, .slice q3 o.sv.length d3, .int .i64 o.off] 41)).alloc (.cells #[.int .i64 0, .slice none 0 0] 36))).alloc (.cells #[.int .i64 a.st, .slice p1 a.xs.length c1, .slice q1 a.sv.length d1, .int .i64 a.off, .int .i64 b.st, .slice p2 b.xs.length c2, .slice q2 b.sv.length d2, .int .i64 b.off, .int .i64 o.st, .slice p3 o.xs.length c3, .slice q3 o.sv.length d3, .int .i64 o.off] 41)) := (Ext.refl _).alloc _ _
  have HF := hide (openN_any (oa := 0) (cp := 3) (h.keep (Bel.tr BX0.bl xr.bl)) hg hl AR (fun x hx => by simp at hx; rcases hx with rfl | rfl | rfl <;> assumption) (by simp) (by simp))
  have HB0 := hide (BX0.keep xr.bl)
  have b0 := BX0.h
  have a0 := BX0.a 0 _ rfl
  have a1 := BX0.a 1 _ rfl
  have a2 := BX0.a 2 _ rfl
  have a3 := BX0.a 3 _ rfl
  have e0 := BX0.b 0 _ rfl
  have e1 := BX0.b 1 _ rfl
  have e2 := BX0.b 2 _ rfl
  have e3 := BX0.b 3 _ rfl
  have o0 := BX0.o 0 _ rfl
  have o1 := BX0.o 1 _ rfl
  have o2 := BX0.o 2 _ rfl
  have o3 := BX0.o 3 _ rfl
  clear AR BX0 xr hx h
  go_enter Tryz.func11, Tryz.ntmps11
  go_wp2_with fail
  refine HF.out.mono ?_
  rintro e w1 ⟨vO, rfl, b1, hcase⟩
  have HB1 := hide (HB0.out.keep b1)
  have HB01 := hide b1
  clear b1 HF b0 a0 a1 a2 a3 e0 e1 e2 e3 o0 o1 o2 o3
  generalize hfe : firstL ss [a, b, o] = fc at hcase ⊢
  by_cases hfc : fc ≠ 0
  · have hok : Hid (fc = solveC ss a b o) := by show fc = _; unfold solveC; rw [hfe, if_pos hfc]
    have hne : (fc == 0) = false := by rw [beq_eq_false_iff_ne]; exact hfc
    have b0 := HB1.out.h
    have r0 := HB1.out.r0
    have r1 := HB1.out.r1
    have f0 := HB1.out.fz 0
    have f1 := HB1.out.fz 1
    go_wp2
    refine bodyPost_ret (v := .agg #[.int .i64 fc, .slice none 0 0]) (by simp [results, Tryz.results11, go_sem, r0, r1]) rfl ⟨fc, _, [], rfl, ⟨hok.out, .inl ⟨by first | exact hfc | omega, rfl⟩⟩, .inl ⟨rfl, rfl⟩, by (first | exact (HB1.out.bl.setCell (p := ⟨w.heap.size + 1 + 1 + 1 + 1, 0, none⟩) (by show _ ≤ w.heap.size + 1 + 1 + 1 + 1; omega) _).setCell (p := ⟨w.heap.size + 1 + 1 + 1 + 1, 1, none⟩) (by show _ ≤ w.heap.size + 1 + 1 + 1 + 1; omega) _ | exact HB1.out.bl.setCell (p := ⟨w.heap.size + 1 + 1 + 1 + 1, 0, none⟩) (by show _ ≤ w.heap.size + 1 + 1 + 1 + 1; omega) _)⟩
  have hfc0 : fc = 0 := by omega
  subst hfc0
  obtain ⟨g, cg, U, rfl, hgl, hgood, hU, hcells⟩ := hcase.resolve_left (by omega)
  have HU1 : Hid (∀ j, j < ss.length → CV w1 (U j) (ss.getD j s0).2) := fun j hj => (hU j hj).keep HB01.out
  have hga := hgood a (by simp)
  have hgb := hgood b (by simp)
  have hgo := hgood o (by simp)
  obtain ⟨xa0, Hxa0⟩ : ∃ z, Hid (a.xs.getD 0 0 = z) := ⟨_, rfl⟩
  obtain ⟨xa1, Hxa1⟩ : ∃ z, Hid (a.xs.getD 1 0 = z) := ⟨_, rfl⟩
  obtain ⟨xa2, Hxa2⟩ : ∃ z, Hid (a.xs.getD 2 0 = z) := ⟨_, rfl⟩
  obtain ⟨xa3, Hxa3⟩ : ∃ z, Hid (a.xs.getD 3 0 = z) := ⟨_, rfl⟩
  obtain ⟨sa0, Hsa0⟩ : ∃ z, Hid (a.sv.getD 0 0 = z) := ⟨_, rfl⟩
  obtain ⟨sa1, Hsa1⟩ : ∃ z, Hid (a.sv.getD 1 0 = z) := ⟨_, rfl⟩
  obtain ⟨sa2, Hsa2⟩ : ∃ z, Hid (a.sv.getD 2 0 = z) := ⟨_, rfl⟩
  obtain ⟨sa3, Hsa3⟩ : ∃ z, Hid (a.sv.getD 3 0 = z) := ⟨_, rfl⟩
  obtain ⟨Da, Hda⟩ : ∃ z, Hid ((ss.getD a.st.toNat s0).1 = z) := ⟨_, rfl⟩
  obtain ⟨ya, ka, na, Hua, Hna⟩ : ∃ (y : Option Addr) (k n : Nat), Hid (U a.st.toNat = .slice y n k) ∧ Hid ((ss.getD a.st.toNat s0).2.length = n) := by
    have hst := hga.1
    obtain ⟨y, k, e, _⟩ := hU a.st.toNat (by omega)
    exact ⟨y, k, _, e, rfl⟩
  obtain ⟨xb0, Hxb0⟩ : ∃ z, Hid (b.xs.getD 0 0 = z) := ⟨_, rfl⟩
  obtain ⟨xb1, Hxb1⟩ : ∃ z, Hid (b.xs.getD 1 0 = z) := ⟨_, rfl⟩
  obtain ⟨xb2, Hxb2⟩ : ∃ z, Hid (b.xs.getD 2 0 = z) := ⟨_, rfl⟩
  obtain ⟨xb3, Hxb3⟩ : ∃ z, Hid (b.xs.getD 3 0 = z) := ⟨_, rfl⟩
  obtain ⟨sb0, Hsb0⟩ : ∃ z, Hid (b.sv.getD 0 0 = z) := ⟨_, rfl⟩
  obtain ⟨sb1, Hsb1⟩ : ∃ z, Hid (b.sv.getD 1 0 = z) := ⟨_, rfl⟩
  obtain ⟨sb2, Hsb2⟩ : ∃ z, Hid (b.sv.getD 2 0 = z) := ⟨_, rfl⟩
  obtain ⟨sb3, Hsb3⟩ : ∃ z, Hid (b.sv.getD 3 0 = z) := ⟨_, rfl⟩
  obtain ⟨Db, Hdb⟩ : ∃ z, Hid ((ss.getD b.st.toNat s0).1 = z) := ⟨_, rfl⟩
  obtain ⟨yb, kb, nb, Hub, Hnb⟩ : ∃ (y : Option Addr) (k n : Nat), Hid (U b.st.toNat = .slice y n k) ∧ Hid ((ss.getD b.st.toNat s0).2.length = n) := by
    have hst := hgb.1
    obtain ⟨y, k, e, _⟩ := hU b.st.toNat (by omega)
    exact ⟨y, k, _, e, rfl⟩
  obtain ⟨xo0, Hxo0⟩ : ∃ z, Hid (o.xs.getD 0 0 = z) := ⟨_, rfl⟩
  obtain ⟨xo1, Hxo1⟩ : ∃ z, Hid (o.xs.getD 1 0 = z) := ⟨_, rfl⟩
  obtain ⟨xo2, Hxo2⟩ : ∃ z, Hid (o.xs.getD 2 0 = z) := ⟨_, rfl⟩
  obtain ⟨xo3, Hxo3⟩ : ∃ z, Hid (o.xs.getD 3 0 = z) := ⟨_, rfl⟩
  obtain ⟨so0, Hso0⟩ : ∃ z, Hid (o.sv.getD 0 0 = z) := ⟨_, rfl⟩
  obtain ⟨so1, Hso1⟩ : ∃ z, Hid (o.sv.getD 1 0 = z) := ⟨_, rfl⟩
  obtain ⟨so2, Hso2⟩ : ∃ z, Hid (o.sv.getD 2 0 = z) := ⟨_, rfl⟩
  obtain ⟨so3, Hso3⟩ : ∃ z, Hid (o.sv.getD 3 0 = z) := ⟨_, rfl⟩
  obtain ⟨Do, Hdo⟩ : ∃ z, Hid ((ss.getD o.st.toNat s0).1 = z) := ⟨_, rfl⟩
  obtain ⟨yo, ko, no, Huo, Hno⟩ : ∃ (y : Option Addr) (k n : Nat), Hid (U o.st.toNat = .slice y n k) ∧ Hid ((ss.getD o.st.toNat s0).2.length = n) := by
    have hst := hgo.1
    obtain ⟨y, k, e, _⟩ := hU o.st.toNat (by omega)
    exact ⟨y, k, _, e, rfl⟩
  have HCa : Hid (∀ i y, ([.int .i64 a.xs.length, .int .i64 xa0, .int .i64 xa1, .int .i64 xa2, .int .i64 xa3, .int .i64 sa0, .int .i64 sa1, .int .i64 sa2, .int .i64 sa3, .int .i64 a.off, .int .i64 a.st, .int .i64 Da, .slice ya na ka] : List Value)[i]? = some y → w1.cell? ⟨g, 0 * 13 + i, none⟩ = some y) := fun i y hy => hcells 0 i y (by simp) (by
    rw [← Hxa0.out, ← Hxa1.out, ← Hxa2.out, ← Hxa3.out, ← Hsa0.out, ← Hsa1.out, ← Hsa2.out, ← Hsa3.out, ← Hda.out, ← Hua.out] at hy
    exact hy)
  have ca0 : w1.cell? ⟨g, 0, none⟩ = some (.int .i64 a.xs.length) := HCa.out 0 _ rfl
  have ca1 : w1.cell? ⟨g, 1, none⟩ = some (.int .i64 xa0) := HCa.out 1 _ rfl
  have ca2 : w1.cell? ⟨g, 2, none⟩ = some (.int .i64 xa1) := HCa.out 2 _ rfl
  have ca3 : w1.cell? ⟨g, 3, none⟩ = some (.int .i64 xa2) := HCa.out 3 _ rfl
  have ca4 : w1.cell? ⟨g, 4, none⟩ = some (.int .i64 xa3) := HCa.out 4 _ rfl
  have ca5 : w1.cell? ⟨g, 5, none⟩ = some (.int .i64 sa0) := HCa.out 5 _ rfl
  have ca6 : w1.cell? ⟨g, 6, none⟩ = some (.int .i64 sa1) := HCa.out 6 _ rfl
  have ca7 : w1.cell? ⟨g, 7, none⟩ = some (.int .i64 sa2) := HCa.out 7 _ rfl
  have ca8 : w1.cell? ⟨g, 8, none⟩ = some (.int .i64 sa3) := HCa.out 8 _ rfl
  have ca9 : w1.cell? ⟨g, 9, none⟩ = some (.int .i64 a.off) := HCa.out 9 _ rfl
  have ca10 : w1.cell? ⟨g, 10, none⟩ = some (.int .i64 a.st) := HCa.out 10 _ rfl
  have ca11 : w1.cell? ⟨g, 11, none⟩ = some (.int .i64 Da) := HCa.out 11 _ rfl
  have ca12 : w1.cell? ⟨g, 12, none⟩ = some (.slice ya na ka) := HCa.out 12 _ rfl
  have HCb : Hid (∀ i y, ([.int .i64 b.xs.length, .int .i64 xb0, .int .i64 xb1, .int .i64 xb2, .int .i64 xb3, .int .i64 sb0, .int .i64 sb1, .int .i64 sb2, .int .i64 sb3, .int .i64 b.off, .int .i64 b.st, .int .i64 Db, .slice yb nb kb] : List Value)[i]? = some y → w1.cell? ⟨g, 1 * 13 + i, none⟩ = some y) := fun i y hy => hcells 1 i y (by simp) (by
    rw [← Hxb0.out, ← Hxb1.out, ← Hxb2.out, ← Hxb3.out, ← Hsb0.out, ← Hsb1.out, ← Hsb2.out, ← Hsb3.out, ← Hdb.out, ← Hub.out] at hy
    exact hy)
  have cb0 : w1.cell? ⟨g, 13, none⟩ = some (.int .i64 b.xs.length) := HCb.out 0 _ rfl
  have cb1 : w1.cell? ⟨g, 14, none⟩ = some (.int .i64 xb0) := HCb.out 1 _ rfl
  have cb2 : w1.cell? ⟨g, 15, none⟩ = some (.int .i64 xb1) := HCb.out 2 _ rfl
  have cb3 : w1.cell? ⟨g, 16, none⟩ = some (.int .i64 xb2) := HCb.out 3 _ rfl
  have cb4 : w1.cell? ⟨g, 17, none⟩ = some (.int .i64 xb3) := HCb.out 4 _ rfl
  have cb5 : w1.cell? ⟨g, 18, none⟩ = some (.int .i64 sb0) := HCb.out 5 _ rfl
  have cb6 : w1.cell? ⟨g, 19, none⟩ = some (.int .i64 sb1) := HCb.out 6 _ rfl
  have cb7 : w1.cell? ⟨g, 20, none⟩ = some (.int .i64 sb2) := HCb.out 7 _ rfl
  have cb8 : w1.cell? ⟨g, 21, none⟩ = some (.int .i64 sb3) := HCb.out 8 _ rfl
  have cb9 : w1.cell? ⟨g, 22, none⟩ = some (.int .i64 b.off) := HCb.out 9 _ rfl
  have cb10 : w1.cell? ⟨g, 23, none⟩ = some (.int .i64 b.st) := HCb.out 10 _ rfl
  have cb11 : w1.cell? ⟨g, 24, none⟩ = some (.int .i64 Db) := HCb.out 11 _ rfl
  have cb12 : w1.cell? ⟨g, 25, none⟩ = some (.slice yb nb kb) := HCb.out 12 _ rfl
  have HCo : Hid (∀ i y, ([.int .i64 o.xs.length, .int .i64 xo0, .int .i64 xo1, .int .i64 xo2, .int .i64 xo3, .int .i64 so0, .int .i64 so1, .int .i64 so2, .int .i64 so3, .int .i64 o.off, .int .i64 o.st, .int .i64 Do, .slice yo no ko] : List Value)[i]? = some y → w1.cell? ⟨g, 2 * 13 + i, none⟩ = some y) := fun i y hy => hcells 2 i y (by simp) (by
    rw [← Hxo0.out, ← Hxo1.out, ← Hxo2.out, ← Hxo3.out, ← Hso0.out, ← Hso1.out, ← Hso2.out, ← Hso3.out, ← Hdo.out, ← Huo.out] at hy
    exact hy)
  have co0 : w1.cell? ⟨g, 26, none⟩ = some (.int .i64 o.xs.length) := HCo.out 0 _ rfl
  have co1 : w1.cell? ⟨g, 27, none⟩ = some (.int .i64 xo0) := HCo.out 1 _ rfl
  have co2 : w1.cell? ⟨g, 28, none⟩ = some (.int .i64 xo1) := HCo.out 2 _ rfl
  have co3 : w1.cell? ⟨g, 29, none⟩ = some (.int .i64 xo2) := HCo.out 3 _ rfl
  have co4 : w1.cell? ⟨g, 30, none⟩ = some (.int .i64 xo3) := HCo.out 4 _ rfl
  have co5 : w1.cell? ⟨g, 31, none⟩ = some (.int .i64 so0) := HCo.out 5 _ rfl
  have co6 : w1.cell? ⟨g, 32, none⟩ = some (.int .i64 so1) := HCo.out 6 _ rfl
  have co7 : w1.cell? ⟨g, 33, none⟩ = some (.int .i64 so2) := HCo.out 7 _ rfl
  have co8 : w1.cell? ⟨g, 34, none⟩ = some (.int .i64 so3) := HCo.out 8 _ rfl
  have co9 : w1.cell? ⟨g, 35, none⟩ = some (.int .i64 o.off) := HCo.out 9 _ rfl
  have co10 : w1.cell? ⟨g, 36, none⟩ = some (.int .i64 o.st) := HCo.out 10 _ rfl
  have co11 : w1.cell? ⟨g, 37, none⟩ = some (.int .i64 Do) := HCo.out 11 _ rfl
  have co12 : w1.cell? ⟨g, 38, none⟩ = some (.slice yo no ko) := HCo.out 12 _ rfl
  have b0 := HB1.out.h
  have r0 := HB1.out.r0
  have r1 := HB1.out.r1
  have f0 := HB1.out.fz 0
  have f1 := HB1.out.fz 1
  go_wp2_with fail
  have HS4 : Hid (∀ W, Bel w1 W → (fun w' : World => w'.cell? ⟨g, 0, none⟩ = some (.int .i64 a.xs.length) ∧ w'.cell? ⟨g, 1, none⟩ = some (.int .i64 xa0) ∧ w'.cell? ⟨g, 2, none⟩ = some (.int .i64 xa1) ∧ w'.cell? ⟨g, 3, none⟩ = some (.int .i64 xa2) ∧ w'.cell? ⟨g, 4, none⟩ = some (.int .i64 xa3) ∧ w'.cell? ⟨g, 5, none⟩ = some (.int .i64 sa0) ∧ w'.cell? ⟨g, 6, none⟩ = some (.int .i64 sa1) ∧ w'.cell? ⟨g, 7, none⟩ = some (.int .i64 sa2) ∧ w'.cell? ⟨g, 8, none⟩ = some (.int .i64 sa3) ∧ w'.cell? ⟨g, 9, none⟩ = some (.int .i64 a.off) ∧ w'.cell? ⟨g, 10, none⟩ = some (.int .i64 a.st) ∧ w'.cell? ⟨g, 11, none⟩ = some (.int .i64 Da) ∧ w'.cell? ⟨g, 12, none⟩ = some (.slice ya na ka) ∧ w'.cell? ⟨g, 13, none⟩ = some (.int .i64 b.xs.length) ∧ w'.cell? ⟨g, 14, none⟩ = some (.int .i64 xb0) ∧ w'.cell? ⟨g, 15, none⟩ = some (.int .i64 xb1) ∧ w'.cell? ⟨g, 16, none⟩ = some (.int .i64 xb2) ∧ w'.cell? ⟨g, 17, none⟩ = some (.int .i64 xb3) ∧ w'.cell? ⟨g, 18, none⟩ = some (.int .i64 sb0) ∧ w'.cell? ⟨g, 19, none⟩ = some (.int .i64 sb1) ∧ w'.cell? ⟨g, 20, none⟩ = some (.int .i64 sb2) ∧ w'.cell? ⟨g, 21, none⟩ = some (.int .i64 sb3) ∧ w'.cell? ⟨g, 22, none⟩ = some (.int .i64 b.off) ∧ w'.cell? ⟨g, 23, none⟩ = some (.int .i64 b.st) ∧ w'.cell? ⟨g, 24, none⟩ = some (.int .i64 Db) ∧ w'.cell? ⟨g, 25, none⟩ = some (.slice yb nb kb) ∧ w'.cell? ⟨g, 26, none⟩ = some (.int .i64 o.xs.length) ∧ w'.cell? ⟨g, 27, none⟩ = some (.int .i64 xo0) ∧ w'.cell? ⟨g, 28, none⟩ = some (.int .i64 xo1) ∧ w'.cell? ⟨g, 29, none⟩ = some (.int .i64 xo2) ∧ w'.cell? ⟨g, 30, none⟩ = some (.int .i64 xo3) ∧ w'.cell? ⟨g, 31, none⟩ = some (.int .i64 so0) ∧ w'.cell? ⟨g, 32, none⟩ = some (.int .i64 so1) ∧ w'.cell? ⟨g, 33, none⟩ = some (.int .i64 so2) ∧ w'.cell? ⟨g, 34, none⟩ = some (.int .i64 so3) ∧ w'.cell? ⟨g, 35, none⟩ = some (.int .i64 o.off) ∧ w'.cell? ⟨g, 36, none⟩ = some (.int .i64 o.st) ∧ w'.cell? ⟨g, 37, none⟩ = some (.int .i64 Do) ∧ w'.cell? ⟨g, 38, none⟩ = some (.slice yo no ko)) W) := fun W x => ⟨Bel.box x ca0, Bel.box x ca1, Bel.box x ca2, Bel.box x ca3, Bel.box x ca4, Bel.box x ca5, Bel.box x ca6, Bel.box x ca7, Bel.box x ca8, Bel.box x ca9, Bel.box x ca10, Bel.box x ca11, Bel.box x ca12, Bel.box x cb0, Bel.box x cb1, Bel.box x cb2, Bel.box x cb3, Bel.box x cb4, Bel.box x cb5, Bel.box x cb6, Bel.box x cb7, Bel.box x cb8, Bel.box x cb9, Bel.box x cb10, Bel.box x cb11, Bel.box x cb12, Bel.box x co0, Bel.box x co1, Bel.box x co2, Bel.box x co3, Bel.box x co4, Bel.box x co5, Bel.box x co6, Bel.box x co7, Bel.box x co8, Bel.box x co9, Bel.box x co10, Bel.box x co11, Bel.box x co12⟩
  have SA := hide (HS4.out w1.drew (Ext.refl w1).drew.bl)
  clear ca0 ca1 ca2 ca3 ca4 ca5 ca6 ca7 ca8 ca9 ca10 ca11 ca12 cb0 cb1 cb2 cb3 cb4 cb5 cb6 cb7 cb8 cb9 cb10 cb11 cb12 co0 co1 co2 co3 co4 co5 co6 co7 co8 co9 co10 co11 co12
  refine region_w (fun ac a' w' => ∃ B1 B2 B3 : Nat, a' = ((((((((((((ac.put (some 31) (.slice (some ⟨g, 0, none⟩) 3 cg)).put (some 32) (.pointer (some ⟨g, 0, none⟩))).put (some 33) (.agg #[.int .i64 a.xs.length, .int .i64 xa0, .int .i64 xa1, .int .i64 xa2, .int .i64 xa3, .int .i64 sa0, .int .i64 sa1, .int .i64 sa2, .int .i64 sa3, .int .i64 a.off, .int .i64 a.st, .int .i64 Da, .slice ya na ka])).put (some 34) (.slice (some ⟨g, 0, none⟩) 3 cg)).put (some 35) (.pointer (some ⟨g, 13, none⟩))).put (some 36) (.agg #[.int .i64 b.xs.length, .int .i64 xb0, .int .i64 xb1, .int .i64 xb2, .int .i64 xb3, .int .i64 sb0, .int .i64 sb1, .int .i64 sb2, .int .i64 sb3, .int .i64 b.off, .int .i64 b.st, .int .i64 Db, .slice yb nb kb])).put (some 37) (.slice (some ⟨g, 0, none⟩) 3 cg)).put (some 38) (.pointer (some ⟨g, 26, none⟩))).put (some 39) (.agg #[.int .i64 o.xs.length, .int .i64 xo0, .int .i64 xo1, .int .i64 xo2, .int .i64 xo3, .int .i64 so0, .int .i64 so1, .int .i64 so2, .int .i64 so3, .int .i64 o.off, .int .i64 o.st, .int .i64 Do, .slice yo no ko])).put (some 11) (.pointer (some ⟨B1, 0, none⟩))).put (some 12) (.pointer (some ⟨B2, 0, none⟩))).put (some 13) (.pointer (some ⟨B3, 0, none⟩))) ∧ Bel w1 w' ∧ AtB w' B1 [.int .i64 a.xs.length, .int .i64 xa0, .int .i64 xa1, .int .i64 xa2, .int .i64 xa3, .int .i64 sa0, .int .i64 sa1, .int .i64 sa2, .int .i64 sa3, .int .i64 a.off, .int .i64 a.st, .int .i64 Da, .slice ya na ka] ∧ AtB w' B2 [.int .i64 b.xs.length, .int .i64 xb0, .int .i64 xb1, .int .i64 xb2, .int .i64 xb3, .int .i64 sb0, .int .i64 sb1, .int .i64 sb2, .int .i64 sb3, .int .i64 b.off, .int .i64 b.st, .int .i64 Db, .slice yb nb kb] ∧ AtB w' B3 [.int .i64 o.xs.length, .int .i64 xo0, .int .i64 xo1, .int .i64 xo2, .int .i64 xo3, .int .i64 so0, .int .i64 so1, .int .i64 so2, .int .i64 so3, .int .i64 o.off, .int .i64 o.st, .int .i64 Do, .slice yo no ko]) (S := (fun w' : World => w'.cell? ⟨g, 0, none⟩ = some (.int .i64 a.xs.length) ∧ w'.cell? ⟨g, 1, none⟩ = some (.int .i64 xa0) ∧ w'.cell? ⟨g, 2, none⟩ = some (.int .i64 xa1) ∧ w'.cell? ⟨g, 3, none⟩ = some (.int .i64 xa2) ∧ w'.cell? ⟨g, 4, none⟩ = some (.int .i64 xa3) ∧ w'.cell? ⟨g, 5, none⟩ = some (.int .i64 sa0) ∧ w'.cell? ⟨g, 6, none⟩ = some (.int .i64 sa1) ∧ w'.cell? ⟨g, 7, none⟩ = some (.int .i64 sa2) ∧ w'.cell? ⟨g, 8, none⟩ = some (.int .i64 sa3) ∧ w'.cell? ⟨g, 9, none⟩ = some (.int .i64 a.off) ∧ w'.cell? ⟨g, 10, none⟩ = some (.int .i64 a.st) ∧ w'.cell? ⟨g, 11, none⟩ = some (.int .i64 Da) ∧ w'.cell? ⟨g, 12, none⟩ = some (.slice ya na ka) ∧ w'.cell? ⟨g, 13, none⟩ = some (.int .i64 b.xs.length) ∧ w'.cell? ⟨g, 14, none⟩ = some (.int .i64 xb0) ∧ w'.cell? ⟨g, 15, none⟩ = some (.int .i64 xb1) ∧ w'.cell? ⟨g, 16, none⟩ = some (.int .i64 xb2) ∧ w'.cell? ⟨g, 17, none⟩ = some (.int .i64 xb3) ∧ w'.cell? ⟨g, 18, none⟩ = some (.int .i64 sb0) ∧ w'.cell? ⟨g, 19, none⟩ = some (.int .i64 sb1) ∧ w'.cell? ⟨g, 20, none⟩ = some (.int .i64 sb2) ∧ w'.cell? ⟨g, 21, none⟩ = some (.int .i64 sb3) ∧ w'.cell? ⟨g, 22, none⟩ = some (.int .i64 b.off) ∧ w'.cell? ⟨g, 23, none⟩ = some (.int .i64 b.st) ∧ w'.cell? ⟨g, 24, none⟩ = some (.int .i64 Db) ∧ w'.cell? ⟨g, 25, none⟩ = some (.slice yb nb kb) ∧ w'.cell? ⟨g, 26, none⟩ = some (.int .i64 o.xs.length) ∧ w'.cell? ⟨g, 27, none⟩ = some (.int .i64 xo0) ∧ w'.cell? ⟨g, 28, none⟩ = some (.int .i64 xo1) ∧ w'.cell? ⟨g, 29, none⟩ = some (.int .i64 xo2) ∧ w'.cell? ⟨g, 30, none⟩ = some (.int .i64 xo3) ∧ w'.cell? ⟨g, 31, none⟩ = some (.int .i64 so0) ∧ w'.cell? ⟨g, 32, none⟩ = some (.int .i64 so1) ∧ w'.cell? ⟨g, 33, none⟩ = some (.int .i64 so2) ∧ w'.cell? ⟨g, 34, none⟩ = some (.int .i64 so3) ∧ w'.cell? ⟨g, 35, none⟩ = some (.int .i64 o.off) ∧ w'.cell? ⟨g, 36, none⟩ = some (.int .i64 o.st) ∧ w'.cell? ⟨g, 37, none⟩ = some (.int .i64 Do) ∧ w'.cell? ⟨g, 38, none⟩ = some (.slice yo no ko))) (late := []) (by kernel_rfl) ?rest ?_
  rotate_left
  · refine wpAnyU_takeD (i := 0) (d := 31) (v := .slice (some ⟨g, 0, none⟩) 3 cg) rfl (by rfl) (by kernel_rfl) (by kernel_rfl) (fun _ _ _ h => by cases h.1) _ (by kernel_rfl) (by kernel_rfl) (Or.inl ⟨by kernel_rfl, ?_⟩) SA.out ?_
    · intro w' hSw
      obtain ⟨z0, z1, z2, z3, z4, z5, z6, z7, z8, z9, z10, z11, z12, z13, z14, z15, z16, z17, z18, z19, z20, z21, z22, z23, z24, z25, z26, z27, z28, z29, z30, z31, z32, z33, z34, z35, z36, z37, z38⟩ := hSw
      go_simp
    simp only [Act.put, List.setIfInBounds_toArray, List.set_cons_zero, List.set_cons_succ]
    refine wpAnyU_takeD (i := 1) (d := 32) (v := .pointer (some ⟨g, 0, none⟩)) rfl (by rfl) (by kernel_rfl) (by kernel_rfl) (fun _ _ _ h => by cases h.1) _ (by kernel_rfl) (by kernel_rfl) (Or.inl ⟨by kernel_rfl, ?_⟩) SA.out ?_
    · intro w' hSw
      obtain ⟨z0, z1, z2, z3, z4, z5, z6, z7, z8, z9, z10, z11, z12, z13, z14, z15, z16, z17, z18, z19, z20, z21, z22, z23, z24, z25, z26, z27, z28, z29, z30, z31, z32, z33, z34, z35, z36, z37, z38⟩ := hSw
      go_simp
    simp only [Act.put, List.setIfInBounds_toArray, List.set_cons_zero, List.set_cons_succ]
    refine wpAnyU_takeD (i := 2) (d := 33) (v := .agg #[.int .i64 a.xs.length, .int .i64 xa0, .int .i64 xa1, .int .i64 xa2, .int .i64 xa3, .int .i64 sa0, .int .i64 sa1, .int .i64 sa2, .int .i64 sa3, .int .i64 a.off, .int .i64 a.st, .int .i64 Da, .slice ya na ka]) rfl (by rfl) (by kernel_rfl) (by kernel_rfl) (fun _ _ _ h => by cases h.1) _ (by kernel_rfl) (by kernel_rfl) (Or.inl ⟨by kernel_rfl, ?_⟩) SA.out ?_
    · intro w' hSw
      obtain ⟨z0, z1, z2, z3, z4, z5, z6, z7, z8, z9, z10, z11, z12, z13, z14, z15, z16, z17, z18, z19, z20, z21, z22, z23, z24, z25, z26, z27, z28, z29, z30, z31, z32, z33, z34, z35, z36, z37, z38⟩ := hSw
      go_simp
    simp only [Act.put, List.setIfInBounds_toArray, List.set_cons_zero, List.set_cons_succ]
    refine wpAnyU_takeD (i := 3) (d := 34) (v := .slice (some ⟨g, 0, none⟩) 3 cg) rfl (by rfl) (by kernel_rfl) (by kernel_rfl) (fun _ _ _ h => by cases h.1) _ (by kernel_rfl) (by kernel_rfl) (Or.inl ⟨by kernel_rfl, ?_⟩) SA.out ?_
    · intro w' hSw
      obtain ⟨z0, z1, z2, z3, z4, z5, z6, z7, z8, z9, z10, z11, z12, z13, z14, z15, z16, z17, z18, z19, z20, z21, z22, z23, z24, z25, z26, z27, z28, z29, z30, z31, z32, z33, z34, z35, z36, z37, z38⟩ := hSw
      go_simp
    simp only [Act.put, List.setIfInBounds_toArray, List.set_cons_zero, List.set_cons_succ]
    refine wpAnyU_takeD (i := 4) (d := 35) (v := .pointer (some ⟨g, 13, none⟩)) rfl (by rfl) (by kernel_rfl) (by kernel_rfl) (fun _ _ _ h => by cases h.1) _ (by kernel_rfl) (by kernel_rfl) (Or.inl ⟨by kernel_rfl, ?_⟩) SA.out ?_
    · intro w' hSw
      obtain ⟨z0, z1, z2, z3, z4, z5, z6, z7, z8, z9, z10, z11, z12, z13, z14, z15, z16, z17, z18, z19, z20, z21, z22, z23, z24, z25, z26, z27, z28, z29, z30, z31, z32, z33, z34, z35, z36, z37, z38⟩ := hSw
      go_simp
    simp only [Act.put, List.setIfInBounds_toArray, List.set_cons_zero, List.set_cons_succ]
    refine wpAnyU_takeD (i := 5) (d := 36) (v := .agg #[.int .i64 b.xs.length, .int .i64 xb0, .int .i64 xb1, .int .i64 xb2, .int .i64 xb3, .int .i64 sb0, .int .i64 sb1, .int .i64 sb2, .int .i64 sb3, .int .i64 b.off, .int .i64 b.st, .int .i64 Db, .slice yb nb kb]) rfl (by rfl) (by kernel_rfl) (by kernel_rfl) (fun _ _ _ h => by cases h.1) _ (by kernel_rfl) (by kernel_rfl) (Or.inl ⟨by kernel_rfl, ?_⟩) SA.out ?_
    · intro w' hSw
      obtain ⟨z0, z1, z2, z3, z4, z5, z6, z7, z8, z9, z10, z11, z12, z13, z14, z15, z16, z17, z18, z19, z20, z21, z22, z23, z24, z25, z26, z27, z28, z29, z30, z31, z32, z33, z34, z35, z36, z37, z38⟩ := hSw
      go_simp
    simp only [Act.put, List.setIfInBounds_toArray, List.set_cons_zero, List.set_cons_succ]
    refine wpAnyU_takeD (i := 6) (d := 37) (v := .slice (some ⟨g, 0, none⟩) 3 cg) rfl (by rfl) (by kernel_rfl) (by kernel_rfl) (fun _ _ _ h => by cases h.1) _ (by kernel_rfl) (by kernel_rfl) (Or.inl ⟨by kernel_rfl, ?_⟩) SA.out ?_
    · intro w' hSw
      obtain ⟨z0, z1, z2, z3, z4, z5, z6, z7, z8, z9, z10, z11, z12, z13, z14, z15, z16, z17, z18, z19, z20, z21, z22, z23, z24, z25, z26, z27, z28, z29, z30, z31, z32, z33, z34, z35, z36, z37, z38⟩ := hSw
      go_simp
    simp only [Act.put, List.setIfInBounds_toArray, List.set_cons_zero, List.set_cons_succ]
    refine wpAnyU_takeD (i := 7) (d := 38) (v := .pointer (some ⟨g, 26, none⟩)) rfl (by rfl) (by kernel_rfl) (by kernel_rfl) (fun _ _ _ h => by cases h.1) _ (by kernel_rfl) (by kernel_rfl) (Or.inl ⟨by kernel_rfl, ?_⟩) SA.out ?_
    · intro w' hSw
      obtain ⟨z0, z1, z2, z3, z4, z5, z6, z7, z8, z9, z10, z11, z12, z13, z14, z15, z16, z17, z18, z19, z20, z21, z22, z23, z24, z25, z26, z27, z28, z29, z30, z31, z32, z33, z34, z35, z36, z37, z38⟩ := hSw
      go_simp
    simp only [Act.put, List.setIfInBounds_toArray, List.set_cons_zero, List.set_cons_succ]
    refine wpAnyU_takeD (i := 8) (d := 39) (v := .agg #[.int .i64 o.xs.length, .int .i64 xo0, .int .i64 xo1, .int .i64 xo2, .int .i64 xo3, .int .i64 so0, .int .i64 so1, .int .i64 so2, .int .i64 so3, .int .i64 o.off, .int .i64 o.st, .int .i64 Do, .slice yo no ko]) rfl (by rfl) (by kernel_rfl) (by kernel_rfl) (fun _ _ _ h => by cases h.1) _ (by kernel_rfl) (by kernel_rfl) (Or.inl ⟨by kernel_rfl, ?_⟩) SA.out ?_
    · intro w' hSw
      obtain ⟨z0, z1, z2, z3, z4, z5, z6, z7, z8, z9, z10, z11, z12, z13, z14, z15, z16, z17, z18, z19, z20, z21, z22, z23, z24, z25, z26, z27, z28, z29, z30, z31, z32, z33, z34, z35, z36, z37, z38⟩ := hSw
      go_simp
    simp only [Act.put, List.setIfInBounds_toArray, List.set_cons_zero, List.set_cons_succ]
    refine wpAnyU_more (rs := [9, 10, 11]) (by kernel_rfl) (by simp) (fun i hi => ?_)
    simp only [List.mem_cons, List.not_mem_nil, or_false] at hi
    rcases hi with rfl | rfl | rfl
    · refine ⟨_, rfl, fun K hK => ?_⟩
      go_simp
      refine hK.out _ _ (fun _ => HS4.out _ (((Ext.refl w1).alloc _ _).drew).bl) ?_
      clear hK K
      try simp only [Act.put, List.setIfInBounds_toArray, List.set_cons_zero, List.set_cons_succ]
      refine wpAnyU_more (rs := [10, 11]) (by kernel_rfl) (by simp) (fun i hi => ?_)
      simp only [List.mem_cons, List.not_mem_nil, or_false] at hi
      rcases hi with rfl | rfl
      · refine ⟨_, rfl, fun K hK => ?_⟩
        go_simp
        refine hK.out _ _ (fun _ => HS4.out _ ((((Ext.refl w1).alloc _ _).alloc _ _).drew).bl) ?_
        clear hK K
        try simp only [Act.put, List.setIfInBounds_toArray, List.set_cons_zero, List.set_cons_succ]
        refine wpAnyU_one (i := 11) (by kernel_rfl) rfl (fun K hK => ?_)
        go_simp
        refine hK.out _ _ (fun _ => HS4.out _ (((((Ext.refl w1).alloc _ _).alloc _ _).alloc _ _).drew).bl) ?_
        clear hK K
        try simp only [Act.put, List.setIfInBounds_toArray, List.set_cons_zero, List.set_cons_succ]
        refine wpAnyU_one (i := 12) (by kernel_rfl) rfl (fun K hK => ?_)
        go_simp
        refine hK.out _ _ (fun _ => HS4.out _ ((((Ext.refl w1).alloc _ _).alloc _ _).alloc _ _).drew.bl) ?_
        clear hK K
        try simp only [Act.put, List.setIfInBounds_toArray, List.set_cons_zero, List.set_cons_succ]
        refine wpAnyU_one (i := 13) (by kernel_rfl) rfl (fun K hK => ?_)
        go_simp
        refine hK.out _ _ (fun _ => HS4.out _ ((((Ext.refl w1).alloc _ _).alloc _ _).alloc _ _).drew.bl) ?_
        clear hK K
        try simp only [Act.put, List.setIfInBounds_toArray, List.set_cons_zero, List.set_cons_succ]
        refine wpAnyU_one (i := 14) (by kernel_rfl) rfl (fun K hK => ?_)
        go_simp
        refine hK.out _ _ (fun _ => HS4.out _ ((((Ext.refl w1).alloc _ _).alloc _ _).alloc _ _).drew.bl) ?_
        clear hK K
        try simp only [Act.put, List.setIfInBounds_toArray, List.set_cons_zero, List.set_cons_succ]
        refine wpAnyU_done (by kernel_rfl) ?_ _
        have h3 := three_new w1 [.int .i64 a.xs.length, .int .i64 xa0, .int .i64 xa1, .int .i64 xa2, .int .i64 xa3, .int .i64 sa0, .int .i64 sa1, .int .i64 sa2, .int .i64 sa3, .int .i64 a.off, .int .i64 a.st, .int .i64 Da, .slice ya na ka] [.int .i64 b.xs.length, .int .i64 xb0, .int .i64 xb1, .int .i64 xb2, .int .i64 xb3, .int .i64 sb0, .int .i64 sb1, .int .i64 sb2, .int .i64 sb3, .int .i64 b.off, .int .i64 b.st, .int .i64 Db, .slice yb nb kb] [.int .i64 o.xs.length, .int .i64 xo0, .int .i64 xo1, .int .i64 xo2, .int .i64 xo3, .int .i64 so0, .int .i64 so1, .int .i64 so2, .int .i64 so3, .int .i64 o.off, .int .i64 o.st, .int .i64 Do, .slice yo no ko] _ _ rfl rfl
        exact ⟨rfl, w1.heap.size, w1.heap.size + 1, w1.heap.size + 1 + 1, by kernel_rfl, h3.1.bl, h3.2.1, h3.2.2.1, h3.2.2.2⟩
      · refine ⟨_, rfl, fun K hK => ?_⟩
        go_simp
        refine hK.out _ _ (fun _ => HS4.out _ ((((Ext.refl w1).alloc _ _).alloc _ _).drew).bl) ?_
        clear hK K
        try simp only [Act.put, List.setIfInBounds_toArray, List.set_cons_zero, List.set_cons_succ]
        refine wpAnyU_one (i := 10) (by kernel_rfl) rfl (fun K hK => ?_)
        go_simp
        refine hK.out _ _ (fun _ => HS4.out _ (((((Ext.refl w1).alloc _ _).alloc _ _).alloc _ _).drew).bl) ?_
        clear hK K
        try simp only [Act.put, List.setIfInBounds_toArray, List.set_cons_zero, List.set_cons_succ]
        refine wpAnyU_one (i := 12) (by kernel_rfl) rfl (fun K hK => ?_)
        go_simp
        refine hK.out _ _ (fun _ => HS4.out _ ((((Ext.refl w1).alloc _ _).alloc _ _).alloc _ _).drew.bl) ?_
        clear hK K
        try simp only [Act.put, List.setIfInBounds_toArray, List.set_cons_zero, List.set_cons_succ]
        refine wpAnyU_one (i := 13) (by kernel_rfl) rfl (fun K hK => ?_)
        go_simp
        refine hK.out _ _ (fun _ => HS4.out _ ((((Ext.refl w1).alloc _ _).alloc _ _).alloc _ _).drew.bl) ?_
        clear hK K
        try simp only [Act.put, List.setIfInBounds_toArray, List.set_cons_zero, List.set_cons_succ]
        refine wpAnyU_one (i := 14) (by kernel_rfl) rfl (fun K hK => ?_)
        go_simp
        refine hK.out _ _ (fun _ => HS4.out _ ((((Ext.refl w1).alloc _ _).alloc _ _).alloc _ _).drew.bl) ?_
        clear hK K
        try simp only [Act.put, List.setIfInBounds_toArray, List.set_cons_zero, List.set_cons_succ]
        refine wpAnyU_done (by kernel_rfl) ?_ _
        have h3 := three_new w1 [.int .i64 a.xs.length, .int .i64 xa0, .int .i64 xa1, .int .i64 xa2, .int .i64 xa3, .int .i64 sa0, .int .i64 sa1, .int .i64 sa2, .int .i64 sa3, .int .i64 a.off, .int .i64 a.st, .int .i64 Da, .slice ya na ka] [.int .i64 o.xs.length, .int .i64 xo0, .int .i64 xo1, .int .i64 xo2, .int .i64 xo3, .int .i64 so0, .int .i64 so1, .int .i64 so2, .int .i64 so3, .int .i64 o.off, .int .i64 o.st, .int .i64 Do, .slice yo no ko] [.int .i64 b.xs.length, .int .i64 xb0, .int .i64 xb1, .int .i64 xb2, .int .i64 xb3, .int .i64 sb0, .int .i64 sb1, .int .i64 sb2, .int .i64 sb3, .int .i64 b.off, .int .i64 b.st, .int .i64 Db, .slice yb nb kb] _ _ rfl rfl
        exact ⟨rfl, w1.heap.size, w1.heap.size + 1 + 1, w1.heap.size + 1, by kernel_rfl, h3.1.bl, h3.2.1, h3.2.2.2, h3.2.2.1⟩
    · refine ⟨_, rfl, fun K hK => ?_⟩
      go_simp
      refine hK.out _ _ (fun _ => HS4.out _ (((Ext.refl w1).alloc _ _).drew).bl) ?_
      clear hK K
      try simp only [Act.put, List.setIfInBounds_toArray, List.set_cons_zero, List.set_cons_succ]
      refine wpAnyU_more (rs := [9, 11]) (by kernel_rfl) (by simp) (fun i hi => ?_)
      simp only [List.mem_cons, List.not_mem_nil, or_false] at hi
      rcases hi with rfl | rfl
      · refine ⟨_, rfl, fun K hK => ?_⟩
        go_simp
        refine hK.out _ _ (fun _ => HS4.out _ ((((Ext.refl w1).alloc _ _).alloc _ _).drew).bl) ?_
        clear hK K
        try simp only [Act.put, List.setIfInBounds_toArray, List.set_cons_zero, List.set_cons_succ]
        refine wpAnyU_one (i := 11) (by kernel_rfl) rfl (fun K hK => ?_)
        go_simp
        refine hK.out _ _ (fun _ => HS4.out _ (((((Ext.refl w1).alloc _ _).alloc _ _).alloc _ _).drew).bl) ?_
        clear hK K
        try simp only [Act.put, List.setIfInBounds_toArray, List.set_cons_zero, List.set_cons_succ]
        refine wpAnyU_one (i := 12) (by kernel_rfl) rfl (fun K hK => ?_)
        go_simp
        refine hK.out _ _ (fun _ => HS4.out _ ((((Ext.refl w1).alloc _ _).alloc _ _).alloc _ _).drew.bl) ?_
        clear hK K
        try simp only [Act.put, List.setIfInBounds_toArray, List.set_cons_zero, List.set_cons_succ]
        refine wpAnyU_one (i := 13) (by kernel_rfl) rfl (fun K hK => ?_)
        go_simp
        refine hK.out _ _ (fun _ => HS4.out _ ((((Ext.refl w1).alloc _ _).alloc _ _).alloc _ _).drew.bl) ?_
        clear hK K
        try simp only [Act.put, List.setIfInBounds_toArray, List.set_cons_zero, List.set_cons_succ]
        refine wpAnyU_one (i := 14) (by kernel_rfl) rfl (fun K hK => ?_)
        go_simp
        refine hK.out _ _ (fun _ => HS4.out _ ((((Ext.refl w1).alloc _ _).alloc _ _).alloc _ _).drew.bl) ?_
        clear hK K
        try simp only [Act.put, List.setIfInBounds_toArray, List.set_cons_zero, List.set_cons_succ]
        refine wpAnyU_done (by kernel_rfl) ?_ _
        have h3 := three_new w1 [.int .i64 b.xs.length, .int .i64 xb0, .int .i64 xb1, .int .i64 xb2, .int .i64 xb3, .int .i64 sb0, .int .i64 sb1, .int .i64 sb2, .int .i64 sb3, .int .i64 b.off, .int .i64 b.st, .int .i64 Db, .slice yb nb kb] [.int .i64 a.xs.length, .int .i64 xa0, .int .i64 xa1, .int .i64 xa2, .int .i64 xa3, .int .i64 sa0, .int .i64 sa1, .int .i64 sa2, .int .i64 sa3, .int .i64 a.off, .int .i64 a.st, .int .i64 Da, .slice ya na ka] [.int .i64 o.xs.length, .int .i64 xo0, .int .i64 xo1, .int .i64 xo2, .int .i64 xo3, .int .i64 so0, .int .i64 so1, .int .i64 so2, .int .i64 so3, .int .i64 o.off, .int .i64 o.st, .int .i64 Do, .slice yo no ko] _ _ rfl rfl
        exact ⟨rfl, w1.heap.size + 1, w1.heap.size, w1.heap.size + 1 + 1, by kernel_rfl, h3.1.bl, h3.2.2.1, h3.2.1, h3.2.2.2⟩
      · refine ⟨_, rfl, fun K hK => ?_⟩
        go_simp
        refine hK.out _ _ (fun _ => HS4.out _ ((((Ext.refl w1).alloc _ _).alloc _ _).drew).bl) ?_
        clear hK K
        try simp only [Act.put, List.setIfInBounds_toArray, List.set_cons_zero, List.set_cons_succ]
        refine wpAnyU_one (i := 9) (by kernel_rfl) rfl (fun K hK => ?_)
        go_simp
        refine hK.out _ _ (fun _ => HS4.out _ (((((Ext.refl w1).alloc _ _).alloc _ _).alloc _ _).drew).bl) ?_
        clear hK K
        try simp only [Act.put, List.setIfInBounds_toArray, List.set_cons_zero, List.set_cons_succ]
        refine wpAnyU_one (i := 12) (by kernel_rfl) rfl (fun K hK => ?_)
        go_simp
        refine hK.out _ _ (fun _ => HS4.out _ ((((Ext.refl w1).alloc _ _).alloc _ _).alloc _ _).drew.bl) ?_
        clear hK K
        try simp only [Act.put, List.setIfInBounds_toArray, List.set_cons_zero, List.set_cons_succ]
        refine wpAnyU_one (i := 13) (by kernel_rfl) rfl (fun K hK => ?_)
        go_simp
        refine hK.out _ _ (fun _ => HS4.out _ ((((Ext.refl w1).alloc _ _).alloc _ _).alloc _ _).drew.bl) ?_
        clear hK K
        try simp only [Act.put, List.setIfInBounds_toArray, List.set_cons_zero, List.set_cons_succ]
        refine wpAnyU_one (i := 14) (by kernel_rfl) rfl (fun K hK => ?_)
        go_simp
        refine hK.out _ _ (fun _ => HS4.out _ ((((Ext.refl w1).alloc _ _).alloc _ _).alloc _ _).drew.bl) ?_
        clear hK K
        try simp only [Act.put, List.setIfInBounds_toArray, List.set_cons_zero, List.set_cons_succ]
        refine wpAnyU_done (by kernel_rfl) ?_ _
        have h3 := three_new w1 [.int .i64 b.xs.length, .int .i64 xb0, .int .i64 xb1, .int .i64 xb2, .int .i64 xb3, .int .i64 sb0, .int .i64 sb1, .int .i64 sb2, .int .i64 sb3, .int .i64 b.off, .int .i64 b.st, .int .i64 Db, .slice yb nb kb] [.int .i64 o.xs.length, .int .i64 xo0, .int .i64 xo1, .int .i64 xo2, .int .i64 xo3, .int .i64 so0, .int .i64 so1, .int .i64 so2, .int .i64 so3, .int .i64 o.off, .int .i64 o.st, .int .i64 Do, .slice yo no ko] [.int .i64 a.xs.length, .int .i64 xa0, .int .i64 xa1, .int .i64 xa2, .int .i64 xa3, .int .i64 sa0, .int .i64 sa1, .int .i64 sa2, .int .i64 sa3, .int .i64 a.off, .int .i64 a.st, .int .i64 Da, .slice ya na ka] _ _ rfl rfl
        exact ⟨rfl, w1.heap.size + 1 + 1, w1.heap.size, w1.heap.size + 1, by kernel_rfl, h3.1.bl, h3.2.2.2, h3.2.1, h3.2.2.1⟩
    · refine ⟨_, rfl, fun K hK => ?_⟩
      go_simp
      refine hK.out _ _ (fun _ => HS4.out _ (((Ext.refl w1).alloc _ _).drew).bl) ?_
      clear hK K
      try simp only [Act.put, List.setIfInBounds_toArray, List.set_cons_zero, List.set_cons_succ]
      refine wpAnyU_more (rs := [9, 10]) (by kernel_rfl) (by simp) (fun i hi => ?_)
      simp only [List.mem_cons, List.not_mem_nil, or_false] at hi
      rcases hi with rfl | rfl
      · refine ⟨_, rfl, fun K hK => ?_⟩
        go_simp
        refine hK.out _ _ (fun _ => HS4.out _ ((((Ext.refl w1).alloc _ _).alloc _ _).drew).bl) ?_
        clear hK K
        try simp only [Act.put, List.setIfInBounds_toArray, List.set_cons_zero, List.set_cons_succ]
        refine wpAnyU_one (i := 10) (by kernel_rfl) rfl (fun K hK => ?_)
        go_simp
        refine hK.out _ _ (fun _ => HS4.out _ (((((Ext.refl w1).alloc _ _).alloc _ _).alloc _ _).drew).bl) ?_
        clear hK K
        try simp only [Act.put, List.setIfInBounds_toArray, List.set_cons_zero, List.set_cons_succ]
        refine wpAnyU_one (i := 12) (by kernel_rfl) rfl (fun K hK => ?_)
        go_simp
        refine hK.out _ _ (fun _ => HS4.out _ ((((Ext.refl w1).alloc _ _).alloc _ _).alloc _ _).drew.bl) ?_
        clear hK K
        try simp only [Act.put, List.setIfInBounds_toArray, List.set_cons_zero, List.set_cons_succ]
        refine wpAnyU_one (i := 13) (by kernel_rfl) rfl (fun K hK => ?_)
        go_simp
        refine hK.out _ _ (fun _ => HS4.out _ ((((Ext.refl w1).alloc _ _).alloc _ _).alloc _ _).drew.bl) ?_
        clear hK K
        try simp only [Act.put, List.setIfInBounds_toArray, List.set_cons_zero, List.set_cons_succ]
        refine wpAnyU_one (i := 14) (by kernel_rfl) rfl (fun K hK => ?_)
        go_simp
        refine hK.out _ _ (fun _ => HS4.out _ ((((Ext.refl w1).alloc _ _).alloc _ _).alloc _ _).drew.bl) ?_
        clear hK K
        try simp only [Act.put, List.setIfInBounds_toArray, List.set_cons_zero, List.set_cons_succ]
        refine wpAnyU_done (by kernel_rfl) ?_ _
        have h3 := three_new w1 [.int .i64 o.xs.length, .int .i64 xo0, .int .i64 xo1, .int .i64 xo2, .int .i64 xo3, .int .i64 so0, .int .i64 so1, .int .i64 so2, .int .i64 so3, .int .i64 o.off, .int .i64 o.st, .int .i64 Do, .slice yo no ko] [.int .i64 a.xs.length, .int .i64 xa0, .int .i64 xa1, .int .i64 xa2, .int .i64 xa3, .int .i64 sa0, .int .i64 sa1, .int .i64 sa2, .int .i64 sa3, .int .i64 a.off, .int .i64 a.st, .int .i64 Da, .slice ya na ka] [.int .i64 b.xs.length, .int .i64 xb0, .int .i64 xb1, .int .i64 xb2, .int .i64 xb3, .int .i64 sb0, .int .i64 sb1, .int .i64 sb2, .int .i64 sb3, .int .i64 b.off, .int .i64 b.st, .int .i64 Db, .slice yb nb kb] _ _ rfl rfl
        exact ⟨rfl, w1.heap.size + 1, w1.heap.size + 1 + 1, w1.heap.size, by kernel_rfl, h3.1.bl, h3.2.2.1, h3.2.2.2, h3.2.1⟩
      · refine ⟨_, rfl, fun K hK => ?_⟩
        go_simp
        refine hK.out _ _ (fun _ => HS4.out _ ((((Ext.refl w1).alloc _ _).alloc _ _).drew).bl) ?_
        clear hK K
        try simp only [Act.put, List.setIfInBounds_toArray, List.set_cons_zero, List.set_cons_succ]
        refine wpAnyU_one (i := 9) (by kernel_rfl) rfl (fun K hK => ?_)
        go_simp
        refine hK.out _ _ (fun _ => HS4.out _ (((((Ext.refl w1).alloc _ _).alloc _ _).alloc _ _).drew).bl) ?_
        clear hK K
        try simp only [Act.put, List.setIfInBounds_toArray, List.set_cons_zero, List.set_cons_succ]
        refine wpAnyU_one (i := 12) (by kernel_rfl) rfl (fun K hK => ?_)
        go_simp
        refine hK.out _ _ (fun _ => HS4.out _ ((((Ext.refl w1).alloc _ _).alloc _ _).alloc _ _).drew.bl) ?_
        clear hK K
        try simp only [Act.put, List.setIfInBounds_toArray, List.set_cons_zero, List.set_cons_succ]
        refine wpAnyU_one (i := 13) (by kernel_rfl) rfl (fun K hK => ?_)
        go_simp
        refine hK.out _ _ (fun _ => HS4.out _ ((((Ext.refl w1).alloc _ _).alloc _ _).alloc _ _).drew.bl) ?_
        clear hK K
        try simp only [Act.put, List.setIfInBounds_toArray, List.set_cons_zero, List.set_cons_succ]
        refine wpAnyU_one (i := 14) (by kernel_rfl) rfl (fun K hK => ?_)
        go_simp
        refine hK.out _ _ (fun _ => HS4.out _ ((((Ext.refl w1).alloc _ _).alloc _ _).alloc _ _).drew.bl) ?_
        clear hK K
        try simp only [Act.put, List.setIfInBounds_toArray, List.set_cons_zero, List.set_cons_succ]
        refine wpAnyU_done (by kernel_rfl) ?_ _
        have h3 := three_new w1 [.int .i64 o.xs.length, .int .i64 xo0, .int .i64 xo1, .int .i64 xo2, .int .i64 xo3, .int .i64 so0, .int .i64 so1, .int .i64 so2, .int .i64 so3, .int .i64 o.off, .int .i64 o.st, .int .i64 Do, .slice yo no ko] [.int .i64 b.xs.length, .int .i64 xb0, .int .i64 xb1, .int .i64 xb2, .int .i64 xb3, .int .i64 sb0, .int .i64 sb1, .int .i64 sb2, .int .i64 sb3, .int .i64 b.off, .int .i64 b.st, .int .i64 Db, .slice yb nb kb] [.int .i64 a.xs.length, .int .i64 xa0, .int .i64 xa1, .int .i64 xa2, .int .i64 xa3, .int .i64 sa0, .int .i64 sa1, .int .i64 sa2, .int .i64 sa3, .int .i64 a.off, .int .i64 a.st, .int .i64 Da, .slice ya na ka] _ _ rfl rfl
        exact ⟨rfl, w1.heap.size + 1 + 1, w1.heap.size + 1, w1.heap.size, by kernel_rfl, h3.1.bl, h3.2.2.2, h3.2.2.1, h3.2.1⟩
  rintro a' w2 ⟨B1, B2, B3, rfl, b2, hA1, hA2, hA3⟩
  have HI2 : Hid ((fun W : World => IBx w w1 (.slice sa ss.length cap) B1 B2 B3 [.int .i64 a.xs.length, .int .i64 xa0, .int .i64 xa1, .int .i64 xa2, .int .i64 xa3, .int .i64 sa0, .int .i64 sa1, .int .i64 sa2, .int .i64 sa3, .int .i64 a.off, .int .i64 a.st, .int .i64 Da, .slice ya na ka] [.int .i64 b.xs.length, .int .i64 xb0, .int .i64 xb1, .int .i64 xb2, .int .i64 xb3, .int .i64 sb0, .int .i64 sb1, .int .i64 sb2, .int .i64 sb3, .int .i64 b.off, .int .i64 b.st, .int .i64 Db, .slice yb nb kb] [.int .i64 o.xs.length, .int .i64 xo0, .int .i64 xo1, .int .i64 xo2, .int .i64 xo3, .int .i64 so0, .int .i64 so1, .int .i64 so2, .int .i64 so3, .int .i64 o.off, .int .i64 o.st, .int .i64 Do, .slice yo no ko] W) w2) := by
    have hb := HB1.out.keep b2
    exact ⟨hb.h, hb.r0, hb.r1, hb.fz, hA1, hA2, hA3, hb.bl, hb.sz, b2⟩
  clear b2 hA1 hA2 hA3 HS4 SA b0 r0 r1 f0 f1
  simp only [Act.put, List.setIfInBounds_toArray, List.set_cons_zero, List.set_cons_succ]
  have b0 := HI2.out.h
  have r0 := HI2.out.r0
  have r1 := HI2.out.r1
  have f0 := HI2.out.fz 0
  have f1 := HI2.out.fz 1
  have pa0 : w2.cell? ⟨B1, 0, none⟩ = some (.int .i64 a.xs.length) := HI2.out.c1 0 _ rfl
  have pa1 : w2.cell? ⟨B1, 1, none⟩ = some (.int .i64 xa0) := HI2.out.c1 1 _ rfl
  have pa2 : w2.cell? ⟨B1, 2, none⟩ = some (.int .i64 xa1) := HI2.out.c1 2 _ rfl
  have pa3 : w2.cell? ⟨B1, 3, none⟩ = some (.int .i64 xa2) := HI2.out.c1 3 _ rfl
  have pa4 : w2.cell? ⟨B1, 4, none⟩ = some (.int .i64 xa3) := HI2.out.c1 4 _ rfl
  have pa5 : w2.cell? ⟨B1, 5, none⟩ = some (.int .i64 sa0) := HI2.out.c1 5 _ rfl
  have pa6 : w2.cell? ⟨B1, 6, none⟩ = some (.int .i64 sa1) := HI2.out.c1 6 _ rfl
  have pa7 : w2.cell? ⟨B1, 7, none⟩ = some (.int .i64 sa2) := HI2.out.c1 7 _ rfl
  have pa8 : w2.cell? ⟨B1, 8, none⟩ = some (.int .i64 sa3) := HI2.out.c1 8 _ rfl
  have pa9 : w2.cell? ⟨B1, 9, none⟩ = some (.int .i64 a.off) := HI2.out.c1 9 _ rfl
  have pa10 : w2.cell? ⟨B1, 10, none⟩ = some (.int .i64 a.st) := HI2.out.c1 10 _ rfl
  have pa11 : w2.cell? ⟨B1, 11, none⟩ = some (.int .i64 Da) := HI2.out.c1 11 _ rfl
  have pa12 : w2.cell? ⟨B1, 12, none⟩ = some (.slice ya na ka) := HI2.out.c1 12 _ rfl
  have pb0 : w2.cell? ⟨B2, 0, none⟩ = some (.int .i64 b.xs.length) := HI2.out.c2 0 _ rfl
  have pb1 : w2.cell? ⟨B2, 1, none⟩ = some (.int .i64 xb0) := HI2.out.c2 1 _ rfl
  have pb2 : w2.cell? ⟨B2, 2, none⟩ = some (.int .i64 xb1) := HI2.out.c2 2 _ rfl
  have pb3 : w2.cell? ⟨B2, 3, none⟩ = some (.int .i64 xb2) := HI2.out.c2 3 _ rfl
  have pb4 : w2.cell? ⟨B2, 4, none⟩ = some (.int .i64 xb3) := HI2.out.c2 4 _ rfl
  have pb5 : w2.cell? ⟨B2, 5, none⟩ = some (.int .i64 sb0) := HI2.out.c2 5 _ rfl
  have pb6 : w2.cell? ⟨B2, 6, none⟩ = some (.int .i64 sb1) := HI2.out.c2 6 _ rfl
  have pb7 : w2.cell? ⟨B2, 7, none⟩ = some (.int .i64 sb2) := HI2.out.c2 7 _ rfl
  have pb8 : w2.cell? ⟨B2, 8, none⟩ = some (.int .i64 sb3) := HI2.out.c2 8 _ rfl
  have pb9 : w2.cell? ⟨B2, 9, none⟩ = some (.int .i64 b.off) := HI2.out.c2 9 _ rfl
  have pb10 : w2.cell? ⟨B2, 10, none⟩ = some (.int .i64 b.st) := HI2.out.c2 10 _ rfl
  have pb11 : w2.cell? ⟨B2, 11, none⟩ = some (.int .i64 Db) := HI2.out.c2 11 _ rfl
  have pb12 : w2.cell? ⟨B2, 12, none⟩ = some (.slice yb nb kb) := HI2.out.c2 12 _ rfl
  have po0 : w2.cell? ⟨B3, 0, none⟩ = some (.int .i64 o.xs.length) := HI2.out.c3 0 _ rfl
  have po1 : w2.cell? ⟨B3, 1, none⟩ = some (.int .i64 xo0) := HI2.out.c3 1 _ rfl
  have po2 : w2.cell? ⟨B3, 2, none⟩ = some (.int .i64 xo1) := HI2.out.c3 2 _ rfl
  have po3 : w2.cell? ⟨B3, 3, none⟩ = some (.int .i64 xo2) := HI2.out.c3 3 _ rfl
  have po4 : w2.cell? ⟨B3, 4, none⟩ = some (.int .i64 xo3) := HI2.out.c3 4 _ rfl
  have po5 : w2.cell? ⟨B3, 5, none⟩ = some (.int .i64 so0) := HI2.out.c3 5 _ rfl
  have po6 : w2.cell? ⟨B3, 6, none⟩ = some (.int .i64 so1) := HI2.out.c3 6 _ rfl
  have po7 : w2.cell? ⟨B3, 7, none⟩ = some (.int .i64 so2) := HI2.out.c3 7 _ rfl
  have po8 : w2.cell? ⟨B3, 8, none⟩ = some (.int .i64 so3) := HI2.out.c3 8 _ rfl
  have po9 : w2.cell? ⟨B3, 9, none⟩ = some (.int .i64 o.off) := HI2.out.c3 9 _ rfl
  have po10 : w2.cell? ⟨B3, 10, none⟩ = some (.int .i64 o.st) := HI2.out.c3 10 _ rfl
  have po11 : w2.cell? ⟨B3, 11, none⟩ = some (.int .i64 Do) := HI2.out.c3 11 _ rfl
  have po12 : w2.cell? ⟨B3, 12, none⟩ = some (.slice yo no ko) := HI2.out.c3 12 _ rfl
  go_wp2_with fail
  have HS6 : Hid (∀ W, Bel w2 W → (fun w' : World => w'.cell? ⟨B1, 0, none⟩ = some (.int .i64 a.xs.length) ∧ w'.cell? ⟨B1, 1, none⟩ = some (.int .i64 xa0) ∧ w'.cell? ⟨B1, 2, none⟩ = some (.int .i64 xa1) ∧ w'.cell? ⟨B1, 3, none⟩ = some (.int .i64 xa2) ∧ w'.cell? ⟨B1, 4, none⟩ = some (.int .i64 xa3) ∧ w'.cell? ⟨B2, 0, none⟩ = some (.int .i64 b.xs.length) ∧ w'.cell? ⟨B2, 1, none⟩ = some (.int .i64 xb0) ∧ w'.cell? ⟨B2, 2, none⟩ = some (.int .i64 xb1) ∧ w'.cell? ⟨B2, 3, none⟩ = some (.int .i64 xb2) ∧ w'.cell? ⟨B2, 4, none⟩ = some (.int .i64 xb3) ∧ w'.cell? ⟨B3, 0, none⟩ = some (.int .i64 o.xs.length) ∧ w'.cell? ⟨B3, 1, none⟩ = some (.int .i64 xo0) ∧ w'.cell? ⟨B3, 2, none⟩ = some (.int .i64 xo1) ∧ w'.cell? ⟨B3, 3, none⟩ = some (.int .i64 xo2) ∧ w'.cell? ⟨B3, 4, none⟩ = some (.int .i64 xo3)) W) := fun W x => ⟨Bel.box x pa0, Bel.box x pa1, Bel.box x pa2, Bel.box x pa3, Bel.box x pa4, Bel.box x pb0, Bel.box x pb1, Bel.box x pb2, Bel.box x pb3, Bel.box x pb4, Bel.box x po0, Bel.box x po1, Bel.box x po2, Bel.box x po3, Bel.box x po4⟩
  have SA := hide (HS6.out w2.drew (Ext.refl w2).drew.bl)
  obtain ⟨ft, HFT⟩ : ∃ z, Hid (fitB a b o = z) := ⟨_, rfl⟩
  have HFI : Hid (ft = decide (((a.xs.length : Int) = 2 ∧ xa1 = xa0 ∧ xa2 = 0 ∧ xa3 = 0) ∧ ((b.xs.length : Int) = 1 ∧ xb0 = xa0 ∧ xb1 = 0 ∧ xb2 = 0 ∧ xb3 = 0) ∧ ((o.xs.length : Int) = 1 ∧ xo0 = xa0 ∧ xo1 = 0 ∧ xo2 = 0 ∧ xo3 = 0))) := by
    show ft = _
    rw [← HFT.out, fit_iff, Hxa0.out, Hxa1.out, Hxa2.out, Hxa3.out, Hxb0.out, Hxb1.out, Hxb2.out, Hxb3.out, Hxo0.out, Hxo1.out, Hxo2.out, Hxo3.out]
  refine region_w (fun ac a' w' => ∃ y45 y46 y47 y48 y49 y50 y51 y52 y53 y54 y55 y56 y57 y58 y59 y60 y61 y62 y63 y64 y65 y66 y67 y68 y69 y70 : Value, a' = (((((((((((((((((((((((((((ac.put (some 45) (y45)).put (some 46) (y46)).put (some 47) (y47)).put (some 48) (y48)).put (some 49) (y49)).put (some 50) (y50)).put (some 51) (y51)).put (some 52) (y52)).put (some 53) (y53)).put (some 54) (y54)).put (some 55) (y55)).put (some 56) (y56)).put (some 57) (y57)).put (some 58) (y58)).put (some 59) (y59)).put (some 60) (y60)).put (some 61) (y61)).put (some 62) (y62)).put (some 63) (y63)).put (some 64) (y64)).put (some 65) (y65)).put (some 66) (y66)).put (some 67) (y67)).put (some 68) (y68)).put (some 69) (y69)).put (some 70) (y70)).put (some 15) (.bool ft)) ∧ Bel w2 w') (S := (fun w' : World => w'.cell? ⟨B1, 0, none⟩ = some (.int .i64 a.xs.length) ∧ w'.cell? ⟨B1, 1, none⟩ = some (.int .i64 xa0) ∧ w'.cell? ⟨B1, 2, none⟩ = some (.int .i64 xa1) ∧ w'.cell? ⟨B1, 3, none⟩ = some (.int .i64 xa2) ∧ w'.cell? ⟨B1, 4, none⟩ = some (.int .i64 xa3) ∧ w'.cell? ⟨B2, 0, none⟩ = some (.int .i64 b.xs.length) ∧ w'.cell? ⟨B2, 1, none⟩ = some (.int .i64 xb0) ∧ w'.cell? ⟨B2, 2, none⟩ = some (.int .i64 xb1) ∧ w'.cell? ⟨B2, 3, none⟩ = some (.int .i64 xb2) ∧ w'.cell? ⟨B2, 4, none⟩ = some (.int .i64 xb3) ∧ w'.cell? ⟨B3, 0, none⟩ = some (.int .i64 o.xs.length) ∧ w'.cell? ⟨B3, 1, none⟩ = some (.int .i64 xo0) ∧ w'.cell? ⟨B3, 2, none⟩ = some (.int .i64 xo1) ∧ w'.cell? ⟨B3, 3, none⟩ = some (.int .i64 xo2) ∧ w'.cell? ⟨B3, 4, none⟩ = some (.int .i64 xo3))) (late := []) (by kernel_rfl) ?rest6 ?_
  rotate_left
  · by_cases hE1 : ((a.xs.length : Int) = 2 ∧ xa1 = xa0 ∧ xa2 = 0 ∧ xa3 = 0)
    · have HE1 := hide hE1
      by_cases hE2 : ((b.xs.length : Int) = 1 ∧ xb0 = xa0 ∧ xb1 = 0 ∧ xb2 = 0 ∧ xb3 = 0)
      · have HE2 := hide hE2
        by_cases hE3 : ((o.xs.length : Int) = 1 ∧ xo0 = xa0 ∧ xo1 = 0 ∧ xo2 = 0 ∧ xo3 = 0)
        · have HE3 := hide hE3
          obtain rfl : ft = true := by rw [HFI.out]; exact decide_eq_true ⟨hE1, hE2, hE3⟩
          clear hE1 hE2 hE3
          refine wpAnyU_takeD (i := 0) (d := 45) (v := .pointer (some ⟨B1, 0, none⟩)) rfl (by rfl) (by kernel_rfl) (by kernel_rfl) (fun _ _ _ h => by cases h.1) _ (by kernel_rfl) (by kernel_rfl) (Or.inl ⟨by kernel_rfl, ?_⟩) SA.out ?_
          · intro w' hSw
            obtain ⟨z0, z1, z2, z3, z4, z5, z6, z7, z8, z9, z10, z11, z12, z13, z14⟩ := hSw
            go_simp
          simp only [Act.put, List.setIfInBounds_toArray, List.set_cons_zero, List.set_cons_succ]
          refine wpAnyU_takeD (i := 1) (d := 46) (v := .pointer (some ⟨B1, 0, none⟩)) rfl (by rfl) (by kernel_rfl) (by kernel_rfl) (fun _ _ _ h => by cases h.1) _ (by kernel_rfl) (by kernel_rfl) (Or.inl ⟨by kernel_rfl, ?_⟩) SA.out ?_
          · intro w' hSw
            obtain ⟨z0, z1, z2, z3, z4, z5, z6, z7, z8, z9, z10, z11, z12, z13, z14⟩ := hSw
            go_simp
          simp only [Act.put, List.setIfInBounds_toArray, List.set_cons_zero, List.set_cons_succ]
          refine wpAnyU_takeD (i := 2) (d := 47) (v := .agg #[.int .i64 a.xs.length, .int .i64 xa0, .int .i64 xa1, .int .i64 xa2, .int .i64 xa3]) rfl (by rfl) (by kernel_rfl) (by kernel_rfl) (fun _ _ _ h => by cases h.1) _ (by kernel_rfl) (by kernel_rfl) (Or.inl ⟨by kernel_rfl, ?_⟩) SA.out ?_
          · intro w' hSw
            obtain ⟨z0, z1, z2, z3, z4, z5, z6, z7, z8, z9, z10, z11, z12, z13, z14⟩ := hSw
            go_simp
          simp only [Act.put, List.setIfInBounds_toArray, List.set_cons_zero, List.set_cons_succ]
          refine wpAnyU_takeD (i := 3) (d := 48) (v := .int .i64 xa0) rfl (by rfl) (by kernel_rfl) (by kernel_rfl) (fun _ _ _ h => by cases h.1) _ (by kernel_rfl) (by kernel_rfl) (Or.inl ⟨by kernel_rfl, ?_⟩) SA.out ?_
          · intro w' hSw
            obtain ⟨z0, z1, z2, z3, z4, z5, z6, z7, z8, z9, z10, z11, z12, z13, z14⟩ := hSw
            go_simp
          simp only [Act.put, List.setIfInBounds_toArray, List.set_cons_zero, List.set_cons_succ]
          refine wpAnyU_takeD (i := 4) (d := 49) (v := .int .i64 xa0) rfl (by rfl) (by kernel_rfl) (by kernel_rfl) (fun _ _ _ h => by cases h.1) _ (by kernel_rfl) (by kernel_rfl) (Or.inl ⟨by kernel_rfl, ?_⟩) SA.out ?_
          · intro w' hSw
            obtain ⟨z0, z1, z2, z3, z4, z5, z6, z7, z8, z9, z10, z11, z12, z13, z14⟩ := hSw
            go_simp
          simp only [Act.put, List.setIfInBounds_toArray, List.set_cons_zero, List.set_cons_succ]
          have xal0 : Ext w2 (w2.alloc (.cells #[.int .i64 xa0, .int .i64 xa0] 2)).drew := ((Ext.refl w2).alloc _ _).drew
          refine wpAnyU_one (i := 5) (by kernel_rfl) rfl (fun K hK => ?_)
          go_simp
          refine hK.out _ _ (fun _ => HS6.out _ xal0.bl) ?_
          clear hK K
          try simp only [Act.put, List.setIfInBounds_toArray, List.set_cons_zero, List.set_cons_succ]
          refine wpAnyU_one (i := 6) (by kernel_rfl) rfl (fun K hK => ?_)
          go_simp
          refine (shape2_any (cp := 2) xa0 xa0 (c0 := (new_celld w2 #[.int .i64 xa0, .int .i64 xa0] 2 0).trans rfl) (c1 := (new_celld w2 #[.int .i64 xa0, .int .i64 xa0] 2 1).trans rfl)).mono ?_
          rintro e w3 ⟨rfl, xc0⟩
          have X0 := xal0.trans xc0
          have S60 := hide (HS6.out _ X0.bl)
          clear xal0 xc0
          refine hK.out _ _ (fun _ => S60.out) ?_
          clear hK K
          try simp only [Act.put, List.setIfInBounds_toArray, List.set_cons_zero, List.set_cons_succ]
          refine wpAnyU_takeD (i := 7) (d := 52) (v := .bool true) rfl (by rfl) (by kernel_rfl) (by kernel_rfl) (fun _ _ _ h => by cases h.1) _ (by kernel_rfl) (by kernel_rfl) (Or.inl ⟨by kernel_rfl, ?_⟩) S60.out ?_
          · intro w' hSw
            clear hSw
            go_simp
            obtain ⟨j0, j1, j2, j3⟩ := HE1.out
            simp [j0, j1, j2, j3]
          simp only [Act.put, List.setIfInBounds_toArray, List.set_cons_zero, List.set_cons_succ]
          refine wpAnyU_takeD (i := 8) (d := 53) (v := .bool true) rfl (by rfl) (by kernel_rfl) (by kernel_rfl) (fun _ _ _ h => by cases h.1) _ (by kernel_rfl) (by kernel_rfl) (Or.inl ⟨by kernel_rfl, ?_⟩) S60.out ?_
          · intro w' hSw
            obtain ⟨z0, z1, z2, z3, z4, z5, z6, z7, z8, z9, z10, z11, z12, z13, z14⟩ := hSw
            go_simp
          simp only [Act.put, List.setIfInBounds_toArray, List.set_cons_zero, List.set_cons_succ]
          refine wpAnyU_takeD (i := 9) (d := 54) (v := .pointer (some ⟨B2, 0, none⟩)) rfl (by rfl) (by kernel_rfl) (by kernel_rfl) (fun _ _ _ h => by cases h.1) _ (by kernel_rfl) (by kernel_rfl) (Or.inl ⟨by kernel_rfl, ?_⟩) S60.out ?_
          · intro w' hSw
            obtain ⟨z0, z1, z2, z3, z4, z5, z6, z7, z8, z9, z10, z11, z12, z13, z14⟩ := hSw
            go_simp
          simp only [Act.put, List.setIfInBounds_toArray, List.set_cons_zero, List.set_cons_succ]
          refine wpAnyU_takeD (i := 10) (d := 55) (v := .pointer (some ⟨B2, 0, none⟩)) rfl (by rfl) (by kernel_rfl) (by kernel_rfl) (fun _ _ _ h => by cases h.1) _ (by kernel_rfl) (by kernel_rfl) (Or.inl ⟨by kernel_rfl, ?_⟩) S60.out ?_
          · intro w' hSw
            obtain ⟨z0, z1, z2, z3, z4, z5, z6, z7, z8, z9, z10, z11, z12, z13, z14⟩ := hSw
            go_simp
          simp only [Act.put, List.setIfInBounds_toArray, List.set_cons_zero, List.set_cons_succ]
          refine wpAnyU_takeD (i := 11) (d := 56) (v := .agg #[.int .i64 b.xs.length, .int .i64 xb0, .int .i64 xb1, .int .i64 xb2, .int .i64 xb3]) rfl (by rfl) (by kernel_rfl) (by kernel_rfl) (fun _ _ _ h => by cases h.1) _ (by kernel_rfl) (by kernel_rfl) (Or.inl ⟨by kernel_rfl, ?_⟩) S60.out ?_
          · intro w' hSw
            obtain ⟨z0, z1, z2, z3, z4, z5, z6, z7, z8, z9, z10, z11, z12, z13, z14⟩ := hSw
            go_simp
          simp only [Act.put, List.setIfInBounds_toArray, List.set_cons_zero, List.set_cons_succ]
          refine wpAnyU_takeD (i := 12) (d := 57) (v := .int .i64 xa0) rfl (by rfl) (by kernel_rfl) (by kernel_rfl) (fun _ _ _ h => by cases h.1) _ (by kernel_rfl) (by kernel_rfl) (Or.inl ⟨by kernel_rfl, ?_⟩) S60.out ?_
          · intro w' hSw
            obtain ⟨z0, z1, z2, z3, z4, z5, z6, z7, z8, z9, z10, z11, z12, z13, z14⟩ := hSw
            go_simp
          simp only [Act.put, List.setIfInBounds_toArray, List.set_cons_zero, List.set_cons_succ]
          have xal1 : Ext w2 (w3.alloc (.cells #[.int .i64 xa0] 2)) := (X0.alloc _ _)
          refine wpAnyU_one (i := 13) (by kernel_rfl) rfl (fun K hK => ?_)
          go_simp
          refine hK.out _ _ (fun _ => HS6.out _ xal1.bl) ?_
          clear hK K
          try simp only [Act.put, List.setIfInBounds_toArray, List.set_cons_zero, List.set_cons_succ]
          refine wpAnyU_one (i := 14) (by kernel_rfl) rfl (fun K hK => ?_)
          go_simp
          refine (shape1_any (cp := 1) xa0 (c0 := (new_cellp w3 #[.int .i64 xa0] 2 0).trans rfl)).mono ?_
          rintro e w4 ⟨rfl, xc1⟩
          have X1 := xal1.trans xc1
          have S61 := hide (HS6.out _ X1.bl)
          clear xal1 xc1
          refine hK.out _ _ (fun _ => S61.out) ?_
          clear hK K
          try simp only [Act.put, List.setIfInBounds_toArray, List.set_cons_zero, List.set_cons_succ]
          refine wpAnyU_takeD (i := 15) (d := 60) (v := .bool true) rfl (by rfl) (by kernel_rfl) (by kernel_rfl) (fun _ _ _ h => by cases h.1) _ (by kernel_rfl) (by kernel_rfl) (Or.inl ⟨by kernel_rfl, ?_⟩) S61.out ?_
          · intro w' hSw
            clear hSw
            go_simp
            obtain ⟨j0, j1, j2, j3, j4⟩ := HE2.out
            simp [j0, j1, j2, j3, j4]
          simp only [Act.put, List.setIfInBounds_toArray, List.set_cons_zero, List.set_cons_succ]
          refine wpAnyU_takeD (i := 16) (d := 61) (v := .bool true) rfl (by rfl) (by kernel_rfl) (by kernel_rfl) (fun _ _ _ h => by cases h.1) _ (by kernel_rfl) (by kernel_rfl) (Or.inl ⟨by kernel_rfl, ?_⟩) S61.out ?_
          · intro w' hSw
            obtain ⟨z0, z1, z2, z3, z4, z5, z6, z7, z8, z9, z10, z11, z12, z13, z14⟩ := hSw
            go_simp
          simp only [Act.put, List.setIfInBounds_toArray, List.set_cons_zero, List.set_cons_succ]
          refine wpAnyU_takeD (i := 17) (d := 62) (v := .bool true) rfl (by rfl) (by kernel_rfl) (by kernel_rfl) (fun _ _ _ h => by cases h.1) _ (by kernel_rfl) (by kernel_rfl) (Or.inl ⟨by kernel_rfl, ?_⟩) S61.out ?_
          · intro w' hSw
            obtain ⟨z0, z1, z2, z3, z4, z5, z6, z7, z8, z9, z10, z11, z12, z13, z14⟩ := hSw
            go_simp
          simp only [Act.put, List.setIfInBounds_toArray, List.set_cons_zero, List.set_cons_succ]
          refine wpAnyU_takeD (i := 18) (d := 63) (v := .pointer (some ⟨B3, 0, none⟩)) rfl (by rfl) (by kernel_rfl) (by kernel_rfl) (fun _ _ _ h => by cases h.1) _ (by kernel_rfl) (by kernel_rfl) (Or.inl ⟨by kernel_rfl, ?_⟩) S61.out ?_
          · intro w' hSw
            obtain ⟨z0, z1, z2, z3, z4, z5, z6, z7, z8, z9, z10, z11, z12, z13, z14⟩ := hSw
            go_simp
          simp only [Act.put, List.setIfInBounds_toArray, List.set_cons_zero, List.set_cons_succ]
          refine wpAnyU_takeD (i := 19) (d := 64) (v := .pointer (some ⟨B3, 0, none⟩)) rfl (by rfl) (by kernel_rfl) (by kernel_rfl) (fun _ _ _ h => by cases h.1) _ (by kernel_rfl) (by kernel_rfl) (Or.inl ⟨by kernel_rfl, ?_⟩) S61.out ?_
          · intro w' hSw
            obtain ⟨z0, z1, z2, z3, z4, z5, z6, z7, z8, z9, z10, z11, z12, z13, z14⟩ := hSw
            go_simp
          simp only [Act.put, List.setIfInBounds_toArray, List.set_cons_zero, List.set_cons_succ]
          refine wpAnyU_takeD (i := 20) (d := 65) (v := .agg #[.int .i64 o.xs.length, .int .i64 xo0, .int .i64 xo1, .int .i64 xo2, .int .i64 xo3]) rfl (by rfl) (by kernel_rfl) (by kernel_rfl) (fun _ _ _ h => by cases h.1) _ (by kernel_rfl) (by kernel_rfl) (Or.inl ⟨by kernel_rfl, ?_⟩) S61.out ?_
          · intro w' hSw
            obtain ⟨z0, z1, z2, z3, z4, z5, z6, z7, z8, z9, z10, z11, z12, z13, z14⟩ := hSw
            go_simp
          simp only [Act.put, List.setIfInBounds_toArray, List.set_cons_zero, List.set_cons_succ]
          refine wpAnyU_takeD (i := 21) (d := 66) (v := .int .i64 xa0) rfl (by rfl) (by kernel_rfl) (by kernel_rfl) (fun _ _ _ h => by cases h.1) _ (by kernel_rfl) (by kernel_rfl) (Or.inl ⟨by kernel_rfl, ?_⟩) S61.out ?_
          · intro w' hSw
            obtain ⟨z0, z1, z2, z3, z4, z5, z6, z7, z8, z9, z10, z11, z12, z13, z14⟩ := hSw
            go_simp
          simp only [Act.put, List.setIfInBounds_toArray, List.set_cons_zero, List.set_cons_succ]
          have xal2 : Ext w2 (w4.alloc (.cells #[.int .i64 xa0] 2)) := (X1.alloc _ _)
          refine wpAnyU_one (i := 22) (by kernel_rfl) rfl (fun K hK => ?_)
          go_simp
          refine hK.out _ _ (fun _ => HS6.out _ xal2.bl) ?_
          clear hK K
          try simp only [Act.put, List.setIfInBounds_toArray, List.set_cons_zero, List.set_cons_succ]
          refine wpAnyU_one (i := 23) (by kernel_rfl) rfl (fun K hK => ?_)
          go_simp
          refine (shape1_any (cp := 1) xa0 (c0 := (new_cellp w4 #[.int .i64 xa0] 2 0).trans rfl)).mono ?_
          rintro e w5 ⟨rfl, xc2⟩
          have X2 := xal2.trans xc2
          have S62 := hide (HS6.out _ X2.bl)
          clear xal2 xc2
          refine hK.out _ _ (fun _ => S62.out) ?_
          clear hK K
          try simp only [Act.put, List.setIfInBounds_toArray, List.set_cons_zero, List.set_cons_succ]
          refine wpAnyU_takeD (i := 24) (d := 69) (v := .bool true) rfl (by rfl) (by kernel_rfl) (by kernel_rfl) (fun _ _ _ h => by cases h.1) _ (by kernel_rfl) (by kernel_rfl) (Or.inl ⟨by kernel_rfl, ?_⟩) S62.out ?_
          · intro w' hSw
            clear hSw
            go_simp
            obtain ⟨j0, j1, j2, j3, j4⟩ := HE3.out
            simp [j0, j1, j2, j3, j4]
          simp only [Act.put, List.setIfInBounds_toArray, List.set_cons_zero, List.set_cons_succ]
          refine wpAnyU_takeD (i := 25) (d := 70) (v := .bool true) rfl (by rfl) (by kernel_rfl) (by kernel_rfl) (fun _ _ _ h => by cases h.1) _ (by kernel_rfl) (by kernel_rfl) (Or.inl ⟨by kernel_rfl, ?_⟩) S62.out ?_
          · intro w' hSw
            obtain ⟨z0, z1, z2, z3, z4, z5, z6, z7, z8, z9, z10, z11, z12, z13, z14⟩ := hSw
            go_simp
          simp only [Act.put, List.setIfInBounds_toArray, List.set_cons_zero, List.set_cons_succ]
          refine wpAnyU_takeD (i := 26) (d := 15) (v := .bool true) rfl (by rfl) (by kernel_rfl) (by kernel_rfl) (fun _ _ _ h => by cases h.1) _ (by kernel_rfl) (by kernel_rfl) (Or.inl ⟨by kernel_rfl, ?_⟩) S62.out ?_
          · intro w' hSw
            obtain ⟨z0, z1, z2, z3, z4, z5, z6, z7, z8, z9, z10, z11, z12, z13, z14⟩ := hSw
            go_simp
          simp only [Act.put, List.setIfInBounds_toArray, List.set_cons_zero, List.set_cons_succ]
          refine wpAnyU_done (by kernel_rfl) ?_ _
          exact ⟨rfl, .pointer (some ⟨B1, 0, none⟩), .pointer (some ⟨B1, 0, none⟩), .agg #[.int .i64 a.xs.length, .int .i64 xa0, .int .i64 xa1, .int .i64 xa2, .int .i64 xa3], .int .i64 xa0, .int .i64 xa0, .slice (some ⟨w2.heap.size, 0, none⟩) 2 2, .agg #[.int .i64 2, .int .i64 xa0, .int .i64 xa0, .int .i64 0, .int .i64 0], .bool true, .bool true, .pointer (some ⟨B2, 0, none⟩), .pointer (some ⟨B2, 0, none⟩), .agg #[.int .i64 b.xs.length, .int .i64 xb0, .int .i64 xb1, .int .i64 xb2, .int .i64 xb3], .int .i64 xa0, .slice (some ⟨w3.heap.size, 0, none⟩) 1 1, .agg #[.int .i64 1, .int .i64 xa0, .int .i64 0, .int .i64 0, .int .i64 0], .bool true, .bool true, .bool true, .pointer (some ⟨B3, 0, none⟩), .pointer (some ⟨B3, 0, none⟩), .agg #[.int .i64 o.xs.length, .int .i64 xo0, .int .i64 xo1, .int .i64 xo2, .int .i64 xo3], .int .i64 xa0, .slice (some ⟨w4.heap.size, 0, none⟩) 1 1, .agg #[.int .i64 1, .int .i64 xa0, .int .i64 0, .int .i64 0, .int .i64 0], .bool true, .bool true, by kernel_rfl, X2.bl⟩
        · have HE3 := hide hE3
          obtain rfl : ft = false := by rw [HFI.out]; exact decide_eq_false (fun q => hE3 q.2.2)
          clear hE1 hE2 hE3
          refine wpAnyU_takeD (i := 0) (d := 45) (v := .pointer (some ⟨B1, 0, none⟩)) rfl (by rfl) (by kernel_rfl) (by kernel_rfl) (fun _ _ _ h => by cases h.1) _ (by kernel_rfl) (by kernel_rfl) (Or.inl ⟨by kernel_rfl, ?_⟩) SA.out ?_
          · intro w' hSw
            obtain ⟨z0, z1, z2, z3, z4, z5, z6, z7, z8, z9, z10, z11, z12, z13, z14⟩ := hSw
            go_simp
          simp only [Act.put, List.setIfInBounds_toArray, List.set_cons_zero, List.set_cons_succ]
          refine wpAnyU_takeD (i := 1) (d := 46) (v := .pointer (some ⟨B1, 0, none⟩)) rfl (by rfl) (by kernel_rfl) (by kernel_rfl) (fun _ _ _ h => by cases h.1) _ (by kernel_rfl) (by kernel_rfl) (Or.inl ⟨by kernel_rfl, ?_⟩) SA.out ?_
          · intro w' hSw
            obtain ⟨z0, z1, z2, z3, z4, z5, z6, z7, z8, z9, z10, z11, z12, z13, z14⟩ := hSw
            go_simp
          simp only [Act.put, List.setIfInBounds_toArray, List.set_cons_zero, List.set_cons_succ]
          refine wpAnyU_takeD (i := 2) (d := 47) (v := .agg #[.int .i64 a.xs.length, .int .i64 xa0, .int .i64 xa1, .int .i64 xa2, .int .i64 xa3]) rfl (by rfl) (by kernel_rfl) (by kernel_rfl) (fun _ _ _ h => by cases h.1) _ (by kernel_rfl) (by kernel_rfl) (Or.inl ⟨by kernel_rfl, ?_⟩) SA.out ?_
          · intro w' hSw
            obtain ⟨z0, z1, z2, z3, z4, z5, z6, z7, z8, z9, z10, z11, z12, z13, z14⟩ := hSw
            go_simp
          simp only [Act.put, List.setIfInBounds_toArray, List.set_cons_zero, List.set_cons_succ]
          refine wpAnyU_takeD (i := 3) (d := 48) (v := .int .i64 xa0) rfl (by rfl) (by kernel_rfl) (by kernel_rfl) (fun _ _ _ h => by cases h.1) _ (by kernel_rfl) (by kernel_rfl) (Or.inl ⟨by kernel_rfl, ?_⟩) SA.out ?_
          · intro w' hSw
            obtain ⟨z0, z1, z2, z3, z4, z5, z6, z7, z8, z9, z10, z11, z12, z13, z14⟩ := hSw
            go_simp
          simp only [Act.put, List.setIfInBounds_toArray, List.set_cons_zero, List.set_cons_succ]
          refine wpAnyU_takeD (i := 4) (d := 49) (v := .int .i64 xa0) rfl (by rfl) (by kernel_rfl) (by kernel_rfl) (fun _ _ _ h => by cases h.1) _ (by kernel_rfl) (by kernel_rfl) (Or.inl ⟨by kernel_rfl, ?_⟩) SA.out ?_
          · intro w' hSw
            obtain ⟨z0, z1, z2, z3, z4, z5, z6, z7, z8, z9, z10, z11, z12, z13, z14⟩ := hSw
            go_simp
          simp only [Act.put, List.setIfInBounds_toArray, List.set_cons_zero, List.set_cons_succ]
          have xal0 : Ext w2 (w2.alloc (.cells #[.int .i64 xa0, .int .i64 xa0] 2)).drew := ((Ext.refl w2).alloc _ _).drew
          refine wpAnyU_one (i := 5) (by kernel_rfl) rfl (fun K hK => ?_)
          go_simp
          refine hK.out _ _ (fun _ => HS6.out _ xal0.bl) ?_
          clear hK K
          try simp only [Act.put, List.setIfInBounds_toArray, List.set_cons_zero, List.set_cons_succ]
          refine wpAnyU_one (i := 6) (by kernel_rfl) rfl (fun K hK => ?_)
          go_simp
          refine (shape2_any (cp := 2) xa0 xa0 (c0 := (new_celld w2 #[.int .i64 xa0, .int .i64 xa0] 2 0).trans rfl) (c1 := (new_celld w2 #[.int .i64 xa0, .int .i64 xa0] 2 1).trans rfl)).mono ?_
          rintro e w3 ⟨rfl, xc0⟩
          have X0 := xal0.trans xc0
          have S60 := hide (HS6.out _ X0.bl)
          clear xal0 xc0
          refine hK.out _ _ (fun _ => S60.out) ?_
          clear hK K
          try simp only [Act.put, List.setIfInBounds_toArray, List.set_cons_zero, List.set_cons_succ]
          refine wpAnyU_takeD (i := 7) (d := 52) (v := .bool true) rfl (by rfl) (by kernel_rfl) (by kernel_rfl) (fun _ _ _ h => by cases h.1) _ (by kernel_rfl) (by kernel_rfl) (Or.inl ⟨by kernel_rfl, ?_⟩) S60.out ?_
          · intro w' hSw
            clear hSw
            go_simp
            obtain ⟨j0, j1, j2, j3⟩ := HE1.out
            simp [j0, j1, j2, j3]
          simp only [Act.put, List.setIfInBounds_toArray, List.set_cons_zero, List.set_cons_succ]
          refine wpAnyU_takeD (i := 8) (d := 53) (v := .bool true) rfl (by rfl) (by kernel_rfl) (by kernel_rfl) (fun _ _ _ h => by cases h.1) _ (by kernel_rfl) (by kernel_rfl) (Or.inl ⟨by kernel_rfl, ?_⟩) S60.out ?_
          · intro w' hSw
            obtain ⟨z0, z1, z2, z3, z4, z5, z6, z7, z8, z9, z10, z11, z12, z13, z14⟩ := hSw
            go_simp
          simp only [Act.put, List.setIfInBounds_toArray, List.set_cons_zero, List.set_cons_succ]
          refine wpAnyU_takeD (i := 9) (d := 54) (v := .pointer (some ⟨B2, 0, none⟩)) rfl (by rfl) (by kernel_rfl) (by kernel_rfl) (fun _ _ _ h => by cases h.1) _ (by kernel_rfl) (by kernel_rfl) (Or.inl ⟨by kernel_rfl, ?_⟩) S60.out ?_
          · intro w' hSw
            obtain ⟨z0, z1, z2, z3, z4, z5, z6, z7, z8, z9, z10, z11, z12, z13, z14⟩ := hSw
            go_simp
          simp only [Act.put, List.setIfInBounds_toArray, List.set_cons_zero, List.set_cons_succ]
          refine wpAnyU_takeD (i := 10) (d := 55) (v := .pointer (some ⟨B2, 0, none⟩)) rfl (by rfl) (by kernel_rfl) (by kernel_rfl) (fun _ _ _ h => by cases h.1) _ (by kernel_rfl) (by kernel_rfl) (Or.inl ⟨by kernel_rfl, ?_⟩) S60.out ?_
          · intro w' hSw
            obtain ⟨z0, z1, z2, z3, z4, z5, z6, z7, z8, z9, z10, z11, z12, z13, z14⟩ := hSw
            go_simp
          simp only [Act.put, List.setIfInBounds_toArray, List.set_cons_zero, List.set_cons_succ]
          refine wpAnyU_takeD (i := 11) (d := 56) (v := .agg #[.int .i64 b.xs.length, .int .i64 xb0, .int .i64 xb1, .int .i64 xb2, .int .i64 xb3]) rfl (by rfl) (by kernel_rfl) (by kernel_rfl) (fun _ _ _ h => by cases h.1) _ (by kernel_rfl) (by kernel_rfl) (Or.inl ⟨by kernel_rfl, ?_⟩) S60.out ?_
          · intro w' hSw
            obtain ⟨z0, z1, z2, z3, z4, z5, z6, z7, z8, z9, z10, z11, z12, z13, z14⟩ := hSw
            go_simp
          simp only [Act.put, List.setIfInBounds_toArray, List.set_cons_zero, List.set_cons_succ]
          refine wpAnyU_takeD (i := 12) (d := 57) (v := .int .i64 xa0) rfl (by rfl) (by kernel_rfl) (by kernel_rfl) (fun _ _ _ h => by cases h.1) _ (by kernel_rfl) (by kernel_rfl) (Or.inl ⟨by kernel_rfl, ?_⟩) S60.out ?_
          · intro w' hSw
            obtain ⟨z0, z1, z2, z3, z4, z5, z6, z7, z8, z9, z10, z11, z12, z13, z14⟩ := hSw
            go_simp
          simp only [Act.put, List.setIfInBounds_toArray, List.set_cons_zero, List.set_cons_succ]
          have xal1 : Ext w2 (w3.alloc (.cells #[.int .i64 xa0] 2)) := (X0.alloc _ _)
          refine wpAnyU_one (i := 13) (by kernel_rfl) rfl (fun K hK => ?_)
          go_simp
          refine hK.out _ _ (fun _ => HS6.out _ xal1.bl) ?_
          clear hK K
          try simp only [Act.put, List.setIfInBounds_toArray, List.set_cons_zero, List.set_cons_succ]
          refine wpAnyU_one (i := 14) (by kernel_rfl) rfl (fun K hK => ?_)
          go_simp
          refine (shape1_any (cp := 1) xa0 (c0 := (new_cellp w3 #[.int .i64 xa0] 2 0).trans rfl)).mono ?_
          rintro e w4 ⟨rfl, xc1⟩
          have X1 := xal1.trans xc1
          have S61 := hide (HS6.out _ X1.bl)
          clear xal1 xc1
          refine hK.out _ _ (fun _ => S61.out) ?_
          clear hK K
          try simp only [Act.put, List.setIfInBounds_toArray, List.set_cons_zero, List.set_cons_succ]
          refine wpAnyU_takeD (i := 15) (d := 60) (v := .bool true) rfl (by rfl) (by kernel_rfl) (by kernel_rfl) (fun _ _ _ h => by cases h.1) _ (by kernel_rfl) (by kernel_rfl) (Or.inl ⟨by kernel_rfl, ?_⟩) S61.out ?_
          · intro w' hSw
            clear hSw
            go_simp
            obtain ⟨j0, j1, j2, j3, j4⟩ := HE2.out
            simp [j0, j1, j2, j3, j4]
          simp only [Act.put, List.setIfInBounds_toArray, List.set_cons_zero, List.set_cons_succ]
          refine wpAnyU_takeD (i := 16) (d := 61) (v := .bool true) rfl (by rfl) (by kernel_rfl) (by kernel_rfl) (fun _ _ _ h => by cases h.1) _ (by kernel_rfl) (by kernel_rfl) (Or.inl ⟨by kernel_rfl, ?_⟩) S61.out ?_
          · intro w' hSw
            obtain ⟨z0, z1, z2, z3, z4, z5, z6, z7, z8, z9, z10, z11, z12, z13, z14⟩ := hSw
            go_simp
          simp only [Act.put, List.setIfInBounds_toArray, List.set_cons_zero, List.set_cons_succ]
          refine wpAnyU_takeD (i := 17) (d := 62) (v := .bool true) rfl (by rfl) (by kernel_rfl) (by kernel_rfl) (fun _ _ _ h => by cases h.1) _ (by kernel_rfl) (by kernel_rfl) (Or.inl ⟨by kernel_rfl, ?_⟩) S61.out ?_
          · intro w' hSw
            obtain ⟨z0, z1, z2, z3, z4, z5, z6, z7, z8, z9, z10, z11, z12, z13, z14⟩ := hSw
            go_simp
          simp only [Act.put, List.setIfInBounds_toArray, List.set_cons_zero, List.set_cons_succ]
          refine wpAnyU_takeD (i := 18) (d := 63) (v := .pointer (some ⟨B3, 0, none⟩)) rfl (by rfl) (by kernel_rfl) (by kernel_rfl) (fun _ _ _ h => by cases h.1) _ (by kernel_rfl) (by kernel_rfl) (Or.inl ⟨by kernel_rfl, ?_⟩) S61.out ?_
          · intro w' hSw
            obtain ⟨z0, z1, z2, z3, z4, z5, z6, z7, z8, z9, z10, z11, z12, z13, z14⟩ := hSw
            go_simp
          simp only [Act.put, List.setIfInBounds_toArray, List.set_cons_zero, List.set_cons_succ]
          refine wpAnyU_takeD (i := 19) (d := 64) (v := .pointer (some ⟨B3, 0, none⟩)) rfl (by rfl) (by kernel_rfl) (by kernel_rfl) (fun _ _ _ h => by cases h.1) _ (by kernel_rfl) (by kernel_rfl) (Or.inl ⟨by kernel_rfl, ?_⟩) S61.out ?_
          · intro w' hSw
            obtain ⟨z0, z1, z2, z3, z4, z5, z6, z7, z8, z9, z10, z11, z12, z13, z14⟩ := hSw
            go_simp
          simp only [Act.put, List.setIfInBounds_toArray, List.set_cons_zero, List.set_cons_succ]
          refine wpAnyU_takeD (i := 20) (d := 65) (v := .agg #[.int .i64 o.xs.length, .int .i64 xo0, .int .i64 xo1, .int .i64 xo2, .int .i64 xo3]) rfl (by rfl) (by kernel_rfl) (by kernel_rfl) (fun _ _ _ h => by cases h.1) _ (by kernel_rfl) (by kernel_rfl) (Or.inl ⟨by kernel_rfl, ?_⟩) S61.out ?_
          · intro w' hSw
            obtain ⟨z0, z1, z2, z3, z4, z5, z6, z7, z8, z9, z10, z11, z12, z13, z14⟩ := hSw
            go_simp
          simp only [Act.put, List.setIfInBounds_toArray, List.set_cons_zero, List.set_cons_succ]
          refine wpAnyU_takeD (i := 21) (d := 66) (v := .int .i64 xa0) rfl (by rfl) (by kernel_rfl) (by kernel_rfl) (fun _ _ _ h => by cases h.1) _ (by kernel_rfl) (by kernel_rfl) (Or.inl ⟨by kernel_rfl, ?_⟩) S61.out ?_
          · intro w' hSw
            obtain ⟨z0, z1, z2, z3, z4, z5, z6, z7, z8, z9, z10, z11, z12, z13, z14⟩ := hSw
            go_simp
          simp only [Act.put, List.setIfInBounds_toArray, List.set_cons_zero, List.set_cons_succ]
          have xal2 : Ext w2 (w4.alloc (.cells #[.int .i64 xa0] 2)) := (X1.alloc _ _)
          refine wpAnyU_one (i := 22) (by kernel_rfl) rfl (fun K hK => ?_)
          go_simp
          refine hK.out _ _ (fun _ => HS6.out _ xal2.bl) ?_
          clear hK K
          try simp only [Act.put, List.setIfInBounds_toArray, List.set_cons_zero, List.set_cons_succ]
          refine wpAnyU_one (i := 23) (by kernel_rfl) rfl (fun K hK => ?_)
          go_simp
          refine (shape1_any (cp := 1) xa0 (c0 := (new_cellp w4 #[.int .i64 xa0] 2 0).trans rfl)).mono ?_
          rintro e w5 ⟨rfl, xc2⟩
          have X2 := xal2.trans xc2
          have S62 := hide (HS6.out _ X2.bl)
          clear xal2 xc2
          refine hK.out _ _ (fun _ => S62.out) ?_
          clear hK K
          try simp only [Act.put, List.setIfInBounds_toArray, List.set_cons_zero, List.set_cons_succ]
          refine wpAnyU_takeD (i := 24) (d := 69) (v := .bool false) rfl (by rfl) (by kernel_rfl) (by kernel_rfl) (fun _ _ _ h => by cases h.1) _ (by kernel_rfl) (by kernel_rfl) (Or.inl ⟨by kernel_rfl, ?_⟩) S62.out ?_
          · intro w' hSw
            clear hSw
            go_simp
            exact fun j0 j1 j2 j3 j4 => HE3.out ⟨j0, j1, j2, j3, j4⟩
          simp only [Act.put, List.setIfInBounds_toArray, List.set_cons_zero, List.set_cons_succ]
          refine wpAnyU_takeD (i := 25) (d := 70) (v := .bool false) rfl (by rfl) (by kernel_rfl) (by kernel_rfl) (fun _ _ _ h => by cases h.1) _ (by kernel_rfl) (by kernel_rfl) (Or.inl ⟨by kernel_rfl, ?_⟩) S62.out ?_
          · intro w' hSw
            obtain ⟨z0, z1, z2, z3, z4, z5, z6, z7, z8, z9, z10, z11, z12, z13, z14⟩ := hSw
            go_simp
          simp only [Act.put, List.setIfInBounds_toArray, List.set_cons_zero, List.set_cons_succ]
          refine wpAnyU_takeD (i := 26) (d := 15) (v := .bool false) rfl (by rfl) (by kernel_rfl) (by kernel_rfl) (fun _ _ _ h => by cases h.1) _ (by kernel_rfl) (by kernel_rfl) (Or.inl ⟨by kernel_rfl, ?_⟩) S62.out ?_
          · intro w' hSw
            obtain ⟨z0, z1, z2, z3, z4, z5, z6, z7, z8, z9, z10, z11, z12, z13, z14⟩ := hSw
            go_simp
          simp only [Act.put, List.setIfInBounds_toArray, List.set_cons_zero, List.set_cons_succ]
          refine wpAnyU_done (by kernel_rfl) ?_ _
          exact ⟨rfl, .pointer (some ⟨B1, 0, none⟩), .pointer (some ⟨B1, 0, none⟩), .agg #[.int .i64 a.xs.length, .int .i64 xa0, .int .i64 xa1, .int .i64 xa2, .int .i64 xa3], .int .i64 xa0, .int .i64 xa0, .slice (some ⟨w2.heap.size, 0, none⟩) 2 2, .agg #[.int .i64 2, .int .i64 xa0, .int .i64 xa0, .int .i64 0, .int .i64 0], .bool true, .bool true, .pointer (some ⟨B2, 0, none⟩), .pointer (some ⟨B2, 0, none⟩), .agg #[.int .i64 b.xs.length, .int .i64 xb0, .int .i64 xb1, .int .i64 xb2, .int .i64 xb3], .int .i64 xa0, .slice (some ⟨w3.heap.size, 0, none⟩) 1 1, .agg #[.int .i64 1, .int .i64 xa0, .int .i64 0, .int .i64 0, .int .i64 0], .bool true, .bool true, .bool true, .pointer (some ⟨B3, 0, none⟩), .pointer (some ⟨B3, 0, none⟩), .agg #[.int .i64 o.xs.length, .int .i64 xo0, .int .i64 xo1, .int .i64 xo2, .int .i64 xo3], .int .i64 xa0, .slice (some ⟨w4.heap.size, 0, none⟩) 1 1, .agg #[.int .i64 1, .int .i64 xa0, .int .i64 0, .int .i64 0, .int .i64 0], .bool false, .bool false, by kernel_rfl, X2.bl⟩
      · have HE2 := hide hE2
        obtain rfl : ft = false := by rw [HFI.out]; exact decide_eq_false (fun q => hE2 q.2.1)
        clear hE1 hE2
        refine wpAnyU_takeD (i := 0) (d := 45) (v := .pointer (some ⟨B1, 0, none⟩)) rfl (by rfl) (by kernel_rfl) (by kernel_rfl) (fun _ _ _ h => by cases h.1) _ (by kernel_rfl) (by kernel_rfl) (Or.inl ⟨by kernel_rfl, ?_⟩) SA.out ?_
        · intro w' hSw
          obtain ⟨z0, z1, z2, z3, z4, z5, z6, z7, z8, z9, z10, z11, z12, z13, z14⟩ := hSw
          go_simp
        simp only [Act.put, List.setIfInBounds_toArray, List.set_cons_zero, List.set_cons_succ]
        refine wpAnyU_takeD (i := 1) (d := 46) (v := .pointer (some ⟨B1, 0, none⟩)) rfl (by rfl) (by kernel_rfl) (by kernel_rfl) (fun _ _ _ h => by cases h.1) _ (by kernel_rfl) (by kernel_rfl) (Or.inl ⟨by kernel_rfl, ?_⟩) SA.out ?_
        · intro w' hSw
          obtain ⟨z0, z1, z2, z3, z4, z5, z6, z7, z8, z9, z10, z11, z12, z13, z14⟩ := hSw
          go_simp
        simp only [Act.put, List.setIfInBounds_toArray, List.set_cons_zero, List.set_cons_succ]
        refine wpAnyU_takeD (i := 2) (d := 47) (v := .agg #[.int .i64 a.xs.length, .int .i64 xa0, .int .i64 xa1, .int .i64 xa2, .int .i64 xa3]) rfl (by rfl) (by kernel_rfl) (by kernel_rfl) (fun _ _ _ h => by cases h.1) _ (by kernel_rfl) (by kernel_rfl) (Or.inl ⟨by kernel_rfl, ?_⟩) SA.out ?_
        · intro w' hSw
          obtain ⟨z0, z1, z2, z3, z4, z5, z6, z7, z8, z9, z10, z11, z12, z13, z14⟩ := hSw
          go_simp
        simp only [Act.put, List.setIfInBounds_toArray, List.set_cons_zero, List.set_cons_succ]
        refine wpAnyU_takeD (i := 3) (d := 48) (v := .int .i64 xa0) rfl (by rfl) (by kernel_rfl) (by kernel_rfl) (fun _ _ _ h => by cases h.1) _ (by kernel_rfl) (by kernel_rfl) (Or.inl ⟨by kernel_rfl, ?_⟩) SA.out ?_
        · intro w' hSw
          obtain ⟨z0, z1, z2, z3, z4, z5, z6, z7, z8, z9, z10, z11, z12, z13, z14⟩ := hSw
          go_simp
        simp only [Act.put, List.setIfInBounds_toArray, List.set_cons_zero, List.set_cons_succ]
        refine wpAnyU_takeD (i := 4) (d := 49) (v := .int .i64 xa0) rfl (by rfl) (by kernel_rfl) (by kernel_rfl) (fun _ _ _ h => by cases h.1) _ (by kernel_rfl) (by kernel_rfl) (Or.inl ⟨by kernel_rfl, ?_⟩) SA.out ?_
        · intro w' hSw
          obtain ⟨z0, z1, z2, z3, z4, z5, z6, z7, z8, z9, z10, z11, z12, z13, z14⟩ := hSw
          go_simp
        simp only [Act.put, List.setIfInBounds_toArray, List.set_cons_zero, List.set_cons_succ]
        have xal0 : Ext w2 (w2.alloc (.cells #[.int .i64 xa0, .int .i64 xa0] 2)).drew := ((Ext.refl w2).alloc _ _).drew
        refine wpAnyU_one (i := 5) (by kernel_rfl) rfl (fun K hK => ?_)
        go_simp
        refine hK.out _ _ (fun _ => HS6.out _ xal0.bl) ?_
        clear hK K
        try simp only [Act.put, List.setIfInBounds_toArray, List.set_cons_zero, List.set_cons_succ]
        refine wpAnyU_one (i := 6) (by kernel_rfl) rfl (fun K hK => ?_)
        go_simp
        refine (shape2_any (cp := 2) xa0 xa0 (c0 := (new_celld w2 #[.int .i64 xa0, .int .i64 xa0] 2 0).trans rfl) (c1 := (new_celld w2 #[.int .i64 xa0, .int .i64 xa0] 2 1).trans rfl)).mono ?_
        rintro e w3 ⟨rfl, xc0⟩
        have X0 := xal0.trans xc0
        have S60 := hide (HS6.out _ X0.bl)
        clear xal0 xc0
        refine hK.out _ _ (fun _ => S60.out) ?_
        clear hK K
        try simp only [Act.put, List.setIfInBounds_toArray, List.set_cons_zero, List.set_cons_succ]
        refine wpAnyU_takeD (i := 7) (d := 52) (v := .bool true) rfl (by rfl) (by kernel_rfl) (by kernel_rfl) (fun _ _ _ h => by cases h.1) _ (by kernel_rfl) (by kernel_rfl) (Or.inl ⟨by kernel_rfl, ?_⟩) S60.out ?_
        · intro w' hSw
          clear hSw
          go_simp
          obtain ⟨j0, j1, j2, j3⟩ := HE1.out
          simp [j0, j1, j2, j3]
        simp only [Act.put, List.setIfInBounds_toArray, List.set_cons_zero, List.set_cons_succ]
        refine wpAnyU_takeD (i := 8) (d := 53) (v := .bool true) rfl (by rfl) (by kernel_rfl) (by kernel_rfl) (fun _ _ _ h => by cases h.1) _ (by kernel_rfl) (by kernel_rfl) (Or.inl ⟨by kernel_rfl, ?_⟩) S60.out ?_
        · intro w' hSw
          obtain ⟨z0, z1, z2, z3, z4, z5, z6, z7, z8, z9, z10, z11, z12, z13, z14⟩ := hSw
          go_simp
        simp only [Act.put, List.setIfInBounds_toArray, List.set_cons_zero, List.set_cons_succ]
        refine wpAnyU_takeD (i := 9) (d := 54) (v := .pointer (some ⟨B2, 0, none⟩)) rfl (by rfl) (by kernel_rfl) (by kernel_rfl) (fun _ _ _ h => by cases h.1) _ (by kernel_rfl) (by kernel_rfl) (Or.inl ⟨by kernel_rfl, ?_⟩) S60.out ?_
        · intro w' hSw
          obtain ⟨z0, z1, z2, z3, z4, z5, z6, z7, z8, z9, z10, z11, z12, z13, z14⟩ := hSw
          go_simp
        simp only [Act.put, List.setIfInBounds_toArray, List.set_cons_zero, List.set_cons_succ]
        refine wpAnyU_takeD (i := 10) (d := 55) (v := .pointer (some ⟨B2, 0, none⟩)) rfl (by rfl) (by kernel_rfl) (by kernel_rfl) (fun _ _ _ h => by cases h.1) _ (by kernel_rfl) (by kernel_rfl) (Or.inl ⟨by kernel_rfl, ?_⟩) S60.out ?_
        · intro w' hSw
          obtain ⟨z0, z1, z2, z3, z4, z5, z6, z7, z8, z9, z10, z11, z12, z13, z14⟩ := hSw
          go_simp
        simp only [Act.put, List.setIfInBounds_toArray, List.set_cons_zero, List.set_cons_succ]
        refine wpAnyU_takeD (i := 11) (d := 56) (v := .agg #[.int .i64 b.xs.length, .int .i64 xb0, .int .i64 xb1, .int .i64 xb2, .int .i64 xb3]) rfl (by rfl) (by kernel_rfl) (by kernel_rfl) (fun _ _ _ h => by cases h.1) _ (by kernel_rfl) (by kernel_rfl) (Or.inl ⟨by kernel_rfl, ?_⟩) S60.out ?_
        · intro w' hSw
          obtain ⟨z0, z1, z2, z3, z4, z5, z6, z7, z8, z9, z10, z11, z12, z13, z14⟩ := hSw
          go_simp
        simp only [Act.put, List.setIfInBounds_toArray, List.set_cons_zero, List.set_cons_succ]
        refine wpAnyU_takeD (i := 12) (d := 57) (v := .int .i64 xa0) rfl (by rfl) (by kernel_rfl) (by kernel_rfl) (fun _ _ _ h => by cases h.1) _ (by kernel_rfl) (by kernel_rfl) (Or.inl ⟨by kernel_rfl, ?_⟩) S60.out ?_
        · intro w' hSw
          obtain ⟨z0, z1, z2, z3, z4, z5, z6, z7, z8, z9, z10, z11, z12, z13, z14⟩ := hSw
          go_simp
        simp only [Act.put, List.setIfInBounds_toArray, List.set_cons_zero, List.set_cons_succ]
        have xal1 : Ext w2 (w3.alloc (.cells #[.int .i64 xa0] 2)) := (X0.alloc _ _)
        refine wpAnyU_one (i := 13) (by kernel_rfl) rfl (fun K hK => ?_)
        go_simp
        refine hK.out _ _ (fun _ => HS6.out _ xal1.bl) ?_
        clear hK K
        try simp only [Act.put, List.setIfInBounds_toArray, List.set_cons_zero, List.set_cons_succ]
        refine wpAnyU_one (i := 14) (by kernel_rfl) rfl (fun K hK => ?_)
        go_simp
        refine (shape1_any (cp := 1) xa0 (c0 := (new_cellp w3 #[.int .i64 xa0] 2 0).trans rfl)).mono ?_
        rintro e w4 ⟨rfl, xc1⟩
        have X1 := xal1.trans xc1
        have S61 := hide (HS6.out _ X1.bl)
        clear xal1 xc1
        refine hK.out _ _ (fun _ => S61.out) ?_
        clear hK K
        try simp only [Act.put, List.setIfInBounds_toArray, List.set_cons_zero, List.set_cons_succ]
        refine wpAnyU_takeD (i := 15) (d := 60) (v := .bool false) rfl (by rfl) (by kernel_rfl) (by kernel_rfl) (fun _ _ _ h => by cases h.1) _ (by kernel_rfl) (by kernel_rfl) (Or.inl ⟨by kernel_rfl, ?_⟩) S61.out ?_
        · intro w' hSw
          clear hSw
          go_simp
          exact fun j0 j1 j2 j3 j4 => HE2.out ⟨j0, j1, j2, j3, j4⟩
        simp only [Act.put, List.setIfInBounds_toArray, List.set_cons_zero, List.set_cons_succ]
        refine wpAnyU_takeD (i := 16) (d := 61) (v := .bool false) rfl (by rfl) (by kernel_rfl) (by kernel_rfl) (fun _ _ _ h => by cases h.1) _ (by kernel_rfl) (by kernel_rfl) (Or.inl ⟨by kernel_rfl, ?_⟩) S61.out ?_
        · intro w' hSw
          obtain ⟨z0, z1, z2, z3, z4, z5, z6, z7, z8, z9, z10, z11, z12, z13, z14⟩ := hSw
          go_simp
        simp only [Act.put, List.setIfInBounds_toArray, List.set_cons_zero, List.set_cons_succ]
        refine wpAnyU_takeD (i := 17) (d := 62) (v := .bool false) rfl (by rfl) (by kernel_rfl) (by kernel_rfl) (fun _ _ _ h => by cases h.1) _ (by kernel_rfl) (by kernel_rfl) (Or.inl ⟨by kernel_rfl, ?_⟩) S61.out ?_
        · intro w' hSw
          obtain ⟨z0, z1, z2, z3, z4, z5, z6, z7, z8, z9, z10, z11, z12, z13, z14⟩ := hSw
          go_simp
        simp only [Act.put, List.setIfInBounds_toArray, List.set_cons_zero, List.set_cons_succ]
        refine wpAnyU_takeD (i := 18) (d := 63) (v := undef) rfl (by rfl) (by kernel_rfl) (by kernel_rfl) (fun _ _ _ h => by cases h.1) _ (by kernel_rfl) (by kernel_rfl) (Or.inr ⟨by kernel_rfl, rfl⟩) S61.out ?_
        simp only [Act.put, List.setIfInBounds_toArray, List.set_cons_zero, List.set_cons_succ]
        refine wpAnyU_takeD (i := 19) (d := 64) (v := undef) rfl (by rfl) (by kernel_rfl) (by kernel_rfl) (fun _ _ _ h => by cases h.1) _ (by kernel_rfl) (by kernel_rfl) (Or.inr ⟨by kernel_rfl, rfl⟩) S61.out ?_
        simp only [Act.put, List.setIfInBounds_toArray, List.set_cons_zero, List.set_cons_succ]
        refine wpAnyU_takeD (i := 20) (d := 65) (v := undef) rfl (by rfl) (by kernel_rfl) (by kernel_rfl) (fun _ _ _ h => by cases h.1) _ (by kernel_rfl) (by kernel_rfl) (Or.inr ⟨by kernel_rfl, rfl⟩) S61.out ?_
        simp only [Act.put, List.setIfInBounds_toArray, List.set_cons_zero, List.set_cons_succ]
        refine wpAnyU_takeD (i := 21) (d := 66) (v := undef) rfl (by rfl) (by kernel_rfl) (by kernel_rfl) (fun _ _ _ h => by cases h.1) _ (by kernel_rfl) (by kernel_rfl) (Or.inr ⟨by kernel_rfl, rfl⟩) S61.out ?_
        simp only [Act.put, List.setIfInBounds_toArray, List.set_cons_zero, List.set_cons_succ]
        refine wpAnyU_takeD (i := 22) (d := 67) (v := undef) rfl (by rfl) (by kernel_rfl) (by kernel_rfl) (fun _ _ _ h => by cases h.1) _ (by kernel_rfl) (by kernel_rfl) (Or.inr ⟨by kernel_rfl, rfl⟩) S61.out ?_
        simp only [Act.put, List.setIfInBounds_toArray, List.set_cons_zero, List.set_cons_succ]
        refine wpAnyU_takeD (i := 23) (d := 68) (v := undef) rfl (by rfl) (by kernel_rfl) (by kernel_rfl) (fun _ _ _ h => by cases h.1) _ (by kernel_rfl) (by kernel_rfl) (Or.inr ⟨by kernel_rfl, rfl⟩) S61.out ?_
        simp only [Act.put, List.setIfInBounds_toArray, List.set_cons_zero, List.set_cons_succ]
        refine wpAnyU_takeD (i := 24) (d := 69) (v := undef) rfl (by rfl) (by kernel_rfl) (by kernel_rfl) (fun _ _ _ h => by cases h.1) _ (by kernel_rfl) (by kernel_rfl) (Or.inr ⟨by kernel_rfl, rfl⟩) S61.out ?_
        simp only [Act.put, List.setIfInBounds_toArray, List.set_cons_zero, List.set_cons_succ]
        refine wpAnyU_takeD (i := 25) (d := 70) (v := .bool false) rfl (by rfl) (by kernel_rfl) (by kernel_rfl) (fun _ _ _ h => by cases h.1) _ (by kernel_rfl) (by kernel_rfl) (Or.inl ⟨by kernel_rfl, ?_⟩) S61.out ?_
        · intro w' hSw
          obtain ⟨z0, z1, z2, z3, z4, z5, z6, z7, z8, z9, z10, z11, z12, z13, z14⟩ := hSw
          go_simp
        simp only [Act.put, List.setIfInBounds_toArray, List.set_cons_zero, List.set_cons_succ]
        refine wpAnyU_takeD (i := 26) (d := 15) (v := .bool false) rfl (by rfl) (by kernel_rfl) (by kernel_rfl) (fun _ _ _ h => by cases h.1) _ (by kernel_rfl) (by kernel_rfl) (Or.inl ⟨by kernel_rfl, ?_⟩) S61.out ?_
        · intro w' hSw
          obtain ⟨z0, z1, z2, z3, z4, z5, z6, z7, z8, z9, z10, z11, z12, z13, z14⟩ := hSw
          go_simp
        simp only [Act.put, List.setIfInBounds_toArray, List.set_cons_zero, List.set_cons_succ]
        refine wpAnyU_done (by kernel_rfl) ?_ _
        exact ⟨rfl, .pointer (some ⟨B1, 0, none⟩), .pointer (some ⟨B1, 0, none⟩), .agg #[.int .i64 a.xs.length, .int .i64 xa0, .int .i64 xa1, .int .i64 xa2, .int .i64 xa3], .int .i64 xa0, .int .i64 xa0, .slice (some ⟨w2.heap.size, 0, none⟩) 2 2, .agg #[.int .i64 2, .int .i64 xa0, .int .i64 xa0, .int .i64 0, .int .i64 0], .bool true, .bool true, .pointer (some ⟨B2, 0, none⟩), .pointer (some ⟨B2, 0, none⟩), .agg #[.int .i64 b.xs.length, .int .i64 xb0, .int .i64 xb1, .int .i64 xb2, .int .i64 xb3], .int .i64 xa0, .slice (some ⟨w3.heap.size, 0, none⟩) 1 1, .agg #[.int .i64 1, .int .i64 xa0, .int .i64 0, .int .i64 0, .int .i64 0], .bool false, .bool false, .bool false, undef, undef, undef, undef, undef, undef, undef, .bool false, by kernel_rfl, X1.bl⟩
    · have HE1 := hide hE1
      obtain rfl : ft = false := by rw [HFI.out]; exact decide_eq_false (fun q => hE1 q.1)
      clear hE1
      refine wpAnyU_takeD (i := 0) (d := 45) (v := .pointer (some ⟨B1, 0, none⟩)) rfl (by rfl) (by kernel_rfl) (by kernel_rfl) (fun _ _ _ h => by cases h.1) _ (by kernel_rfl) (by kernel_rfl) (Or.inl ⟨by kernel_rfl, ?_⟩) SA.out ?_
      · intro w' hSw
        obtain ⟨z0, z1, z2, z3, z4, z5, z6, z7, z8, z9, z10, z11, z12, z13, z14⟩ := hSw
        go_simp
      simp only [Act.put, List.setIfInBounds_toArray, List.set_cons_zero, List.set_cons_succ]
      refine wpAnyU_takeD (i := 1) (d := 46) (v := .pointer (some ⟨B1, 0, none⟩)) rfl (by rfl) (by kernel_rfl) (by kernel_rfl) (fun _ _ _ h => by cases h.1) _ (by kernel_rfl) (by kernel_rfl) (Or.inl ⟨by kernel_rfl, ?_⟩) SA.out ?_
      · intro w' hSw
        obtain ⟨z0, z1, z2, z3, z4, z5, z6, z7, z8, z9, z10, z11, z12, z13, z14⟩ := hSw
        go_simp
      simp only [Act.put, List.setIfInBounds_toArray, List.set_cons_zero, List.set_cons_succ]
      refine wpAnyU_takeD (i := 2) (d := 47) (v := .agg #[.int .i64 a.xs.length, .int .i64 xa0, .int .i64 xa1, .int .i64 xa2, .int .i64 xa3]) rfl (by rfl) (by kernel_rfl) (by kernel_rfl) (fun _ _ _ h => by cases h.1) _ (by kernel_rfl) (by kernel_rfl) (Or.inl ⟨by kernel_rfl, ?_⟩) SA.out ?_
      · intro w' hSw
        obtain ⟨z0, z1, z2, z3, z4, z5, z6, z7, z8, z9, z10, z11, z12, z13, z14⟩ := hSw
        go_simp
      simp only [Act.put, List.setIfInBounds_toArray, List.set_cons_zero, List.set_cons_succ]
      refine wpAnyU_takeD (i := 3) (d := 48) (v := .int .i64 xa0) rfl (by rfl) (by kernel_rfl) (by kernel_rfl) (fun _ _ _ h => by cases h.1) _ (by kernel_rfl) (by kernel_rfl) (Or.inl ⟨by kernel_rfl, ?_⟩) SA.out ?_
      · intro w' hSw
        obtain ⟨z0, z1, z2, z3, z4, z5, z6, z7, z8, z9, z10, z11, z12, z13, z14⟩ := hSw
        go_simp
      simp only [Act.put, List.setIfInBounds_toArray, List.set_cons_zero, List.set_cons_succ]
      refine wpAnyU_takeD (i := 4) (d := 49) (v := .int .i64 xa0) rfl (by rfl) (by kernel_rfl) (by kernel_rfl) (fun _ _ _ h => by cases h.1) _ (by kernel_rfl) (by kernel_rfl) (Or.inl ⟨by kernel_rfl, ?_⟩) SA.out ?_
      · intro w' hSw
        obtain ⟨z0, z1, z2, z3, z4, z5, z6, z7, z8, z9, z10, z11, z12, z13, z14⟩ := hSw
        go_simp
      simp only [Act.put, List.setIfInBounds_toArray, List.set_cons_zero, List.set_cons_succ]
      have xal0 : Ext w2 (w2.alloc (.cells #[.int .i64 xa0, .int .i64 xa0] 2)).drew := ((Ext.refl w2).alloc _ _).drew
      refine wpAnyU_one (i := 5) (by kernel_rfl) rfl (fun K hK => ?_)
      go_simp
      refine hK.out _ _ (fun _ => HS6.out _ xal0.bl) ?_
      clear hK K
      try simp only [Act.put, List.setIfInBounds_toArray, List.set_cons_zero, List.set_cons_succ]
      refine wpAnyU_one (i := 6) (by kernel_rfl) rfl (fun K hK => ?_)
      go_simp
      refine (shape2_any (cp := 2) xa0 xa0 (c0 := (new_celld w2 #[.int .i64 xa0, .int .i64 xa0] 2 0).trans rfl) (c1 := (new_celld w2 #[.int .i64 xa0, .int .i64 xa0] 2 1).trans rfl)).mono ?_
      rintro e w3 ⟨rfl, xc0⟩
      have X0 := xal0.trans xc0
      have S60 := hide (HS6.out _ X0.bl)
      clear xal0 xc0
      refine hK.out _ _ (fun _ => S60.out) ?_
      clear hK K
      try simp only [Act.put, List.setIfInBounds_toArray, List.set_cons_zero, List.set_cons_succ]
      refine wpAnyU_takeD (i := 7) (d := 52) (v := .bool false) rfl (by rfl) (by kernel_rfl) (by kernel_rfl) (fun _ _ _ h => by cases h.1) _ (by kernel_rfl) (by kernel_rfl) (Or.inl ⟨by kernel_rfl, ?_⟩) S60.out ?_
      · intro w' hSw
        clear hSw
        go_simp
        exact fun j0 j1 j2 j3 => HE1.out ⟨j0, j1, j2, j3⟩
      simp only [Act.put, List.setIfInBounds_toArray, List.set_cons_zero, List.set_cons_succ]
      refine wpAnyU_takeD (i := 8) (d := 53) (v := .bool false) rfl (by rfl) (by kernel_rfl) (by kernel_rfl) (fun _ _ _ h => by cases h.1) _ (by kernel_rfl) (by kernel_rfl) (Or.inl ⟨by kernel_rfl, ?_⟩) S60.out ?_
      · intro w' hSw
        obtain ⟨z0, z1, z2, z3, z4, z5, z6, z7, z8, z9, z10, z11, z12, z13, z14⟩ := hSw
        go_simp
      simp only [Act.put, List.setIfInBounds_toArray, List.set_cons_zero, List.set_cons_succ]
      refine wpAnyU_takeD (i := 9) (d := 54) (v := undef) rfl (by rfl) (by kernel_rfl) (by kernel_rfl) (fun _ _ _ h => by cases h.1) _ (by kernel_rfl) (by kernel_rfl) (Or.inr ⟨by kernel_rfl, rfl⟩) S60.out ?_
      simp only [Act.put, List.setIfInBounds_toArray, List.set_cons_zero, List.set_cons_succ]
      refine wpAnyU_takeD (i := 10) (d := 55) (v := undef) rfl (by rfl) (by kernel_rfl) (by kernel_rfl) (fun _ _ _ h => by cases h.1) _ (by kernel_rfl) (by kernel_rfl) (Or.inr ⟨by kernel_rfl, rfl⟩) S60.out ?_
      simp only [Act.put, List.setIfInBounds_toArray, List.set_cons_zero, List.set_cons_succ]
      refine wpAnyU_takeD (i := 11) (d := 56) (v := undef) rfl (by rfl) (by kernel_rfl) (by kernel_rfl) (fun _ _ _ h => by cases h.1) _ (by kernel_rfl) (by kernel_rfl) (Or.inr ⟨by kernel_rfl, rfl⟩) S60.out ?_
      simp only [Act.put, List.setIfInBounds_toArray, List.set_cons_zero, List.set_cons_succ]
      refine wpAnyU_takeD (i := 12) (d := 57) (v := undef) rfl (by rfl) (by kernel_rfl) (by kernel_rfl) (fun _ _ _ h => by cases h.1) _ (by kernel_rfl) (by kernel_rfl) (Or.inr ⟨by kernel_rfl, rfl⟩) S60.out ?_
      simp only [Act.put, List.setIfInBounds_toArray, List.set_cons_zero, List.set_cons_succ]
      refine wpAnyU_takeD (i := 13) (d := 58) (v := undef) rfl (by rfl) (by kernel_rfl) (by kernel_rfl) (fun _ _ _ h => by cases h.1) _ (by kernel_rfl) (by kernel_rfl) (Or.inr ⟨by kernel_rfl, rfl⟩) S60.out ?_
      simp only [Act.put, List.setIfInBounds_toArray, List.set_cons_zero, List.set_cons_succ]
      refine wpAnyU_takeD (i := 14) (d := 59) (v := undef) rfl (by rfl) (by kernel_rfl) (by kernel_rfl) (fun _ _ _ h => by cases h.1) _ (by kernel_rfl) (by kernel_rfl) (Or.inr ⟨by kernel_rfl, rfl⟩) S60.out ?_
      simp only [Act.put, List.setIfInBounds_toArray, List.set_cons_zero, List.set_cons_succ]
      refine wpAnyU_takeD (i := 15) (d := 60) (v := undef) rfl (by rfl) (by kernel_rfl) (by kernel_rfl) (fun _ _ _ h => by cases h.1) _ (by kernel_rfl) (by kernel_rfl) (Or.inr ⟨by kernel_rfl, rfl⟩) S60.out ?_
      simp only [Act.put, List.setIfInBounds_toArray, List.set_cons_zero, List.set_cons_succ]
      refine wpAnyU_takeD (i := 16) (d := 61) (v := .bool false) rfl (by rfl) (by kernel_rfl) (by kernel_rfl) (fun _ _ _ h => by cases h.1) _ (by kernel_rfl) (by kernel_rfl) (Or.inl ⟨by kernel_rfl, ?_⟩) S60.out ?_
      · intro w' hSw
        obtain ⟨z0, z1, z2, z3, z4, z5, z6, z7, z8, z9, z10, z11, z12, z13, z14⟩ := hSw
        go_simp
      simp only [Act.put, List.setIfInBounds_toArray, List.set_cons_zero, List.set_cons_succ]
      refine wpAnyU_takeD (i := 17) (d := 62) (v := .bool false) rfl (by rfl) (by kernel_rfl) (by kernel_rfl) (fun _ _ _ h => by cases h.1) _ (by kernel_rfl) (by kernel_rfl) (Or.inl ⟨by kernel_rfl, ?_⟩) S60.out ?_
      · intro w' hSw
        obtain ⟨z0, z1, z2, z3, z4, z5, z6, z7, z8, z9, z10, z11, z12, z13, z14⟩ := hSw
        go_simp
      simp only [Act.put, List.setIfInBounds_toArray, List.set_cons_zero, List.set_cons_succ]
      refine wpAnyU_takeD (i := 18) (d := 63) (v := undef) rfl (by rfl) (by kernel_rfl) (by kernel_rfl) (fun _ _ _ h => by cases h.1) _ (by kernel_rfl) (by kernel_rfl) (Or.inr ⟨by kernel_rfl, rfl⟩) S60.out ?_
      simp only [Act.put, List.setIfInBounds_toArray, List.set_cons_zero, List.set_cons_succ]
      refine wpAnyU_takeD (i := 19) (d := 64) (v := undef) rfl (by rfl) (by kernel_rfl) (by kernel_rfl) (fun _ _ _ h => by cases h.1) _ (by kernel_rfl) (by kernel_rfl) (Or.inr ⟨by kernel_rfl, rfl⟩) S60.out ?_
      simp only [Act.put, List.setIfInBounds_toArray, List.set_cons_zero, List.set_cons_succ]
      refine wpAnyU_takeD (i := 20) (d := 65) (v := undef) rfl (by rfl) (by kernel_rfl) (by kernel_rfl) (fun _ _ _ h => by cases h.1) _ (by kernel_rfl) (by kernel_rfl) (Or.inr ⟨by kernel_rfl, rfl⟩) S60.out ?_
      simp only [Act.put, List.setIfInBounds_toArray, List.set_cons_zero, List.set_cons_succ]
      refine wpAnyU_takeD (i := 21) (d := 66) (v := undef) rfl (by rfl) (by kernel_rfl) (by kernel_rfl) (fun _ _ _ h => by cases h.1) _ (by kernel_rfl) (by kernel_rfl) (Or.inr ⟨by kernel_rfl, rfl⟩) S60.out ?_
      simp only [Act.put, List.setIfInBounds_toArray, List.set_cons_zero, List.set_cons_succ]
      refine wpAnyU_takeD (i := 22) (d := 67) (v := undef) rfl (by rfl) (by kernel_rfl) (by kernel_rfl) (fun _ _ _ h => by cases h.1) _ (by kernel_rfl) (by kernel_rfl) (Or.inr ⟨by kernel_rfl, rfl⟩) S60.out ?_
      simp only [Act.put, List.setIfInBounds_toArray, List.set_cons_zero, List.set_cons_succ]
      refine wpAnyU_takeD (i := 23) (d := 68) (v := undef) rfl (by rfl) (by kernel_rfl) (by kernel_rfl) (fun _ _ _ h => by cases h.1) _ (by kernel_rfl) (by kernel_rfl) (Or.inr ⟨by kernel_rfl, rfl⟩) S60.out ?_
      simp only [Act.put, List.setIfInBounds_toArray, List.set_cons_zero, List.set_cons_succ]
      refine wpAnyU_takeD (i := 24) (d := 69) (v := undef) rfl (by rfl) (by kernel_rfl) (by kernel_rfl) (fun _ _ _ h => by cases h.1) _ (by kernel_rfl) (by kernel_rfl) (Or.inr ⟨by kernel_rfl, rfl⟩) S60.out ?_
      simp only [Act.put, List.setIfInBounds_toArray, List.set_cons_zero, List.set_cons_succ]
      refine wpAnyU_takeD (i := 25) (d := 70) (v := .bool false) rfl (by rfl) (by kernel_rfl) (by kernel_rfl) (fun _ _ _ h => by cases h.1) _ (by kernel_rfl) (by kernel_rfl) (Or.inl ⟨by kernel_rfl, ?_⟩) S60.out ?_
      · intro w' hSw
        obtain ⟨z0, z1, z2, z3, z4, z5, z6, z7, z8, z9, z10, z11, z12, z13, z14⟩ := hSw
        go_simp
      simp only [Act.put, List.setIfInBounds_toArray, List.set_cons_zero, List.set_cons_succ]
      refine wpAnyU_takeD (i := 26) (d := 15) (v := .bool false) rfl (by rfl) (by kernel_rfl) (by kernel_rfl) (fun _ _ _ h => by cases h.1) _ (by kernel_rfl) (by kernel_rfl) (Or.inl ⟨by kernel_rfl, ?_⟩) S60.out ?_
      · intro w' hSw
        obtain ⟨z0, z1, z2, z3, z4, z5, z6, z7, z8, z9, z10, z11, z12, z13, z14⟩ := hSw
        go_simp
      simp only [Act.put, List.setIfInBounds_toArray, List.set_cons_zero, List.set_cons_succ]
      refine wpAnyU_done (by kernel_rfl) ?_ _
      exact ⟨rfl, .pointer (some ⟨B1, 0, none⟩), .pointer (some ⟨B1, 0, none⟩), .agg #[.int .i64 a.xs.length, .int .i64 xa0, .int .i64 xa1, .int .i64 xa2, .int .i64 xa3], .int .i64 xa0, .int .i64 xa0, .slice (some ⟨w2.heap.size, 0, none⟩) 2 2, .agg #[.int .i64 2, .int .i64 xa0, .int .i64 xa0, .int .i64 0, .int .i64 0], .bool false, .bool false, undef, undef, undef, undef, undef, undef, undef, .bool false, .bool false, undef, undef, undef, undef, undef, undef, undef, .bool false, by kernel_rfl, X0.bl⟩
  rintro a' w3 ⟨y45, y46, y47, y48, y49, y50, y51, y52, y53, y54, y55, y56, y57, y58, y59, y60, y61, y62, y63, y64, y65, y66, y67, y68, y69, y70, rfl, b3⟩
  have HI3 : Hid ((fun W : World => IBx w w1 (.slice sa ss.length cap) B1 B2 B3 [.int .i64 a.xs.length, .int .i64 xa0, .int .i64 xa1, .int .i64 xa2, .int .i64 xa3, .int .i64 sa0, .int .i64 sa1, .int .i64 sa2, .int .i64 sa3, .int .i64 a.off, .int .i64 a.st, .int .i64 Da, .slice ya na ka] [.int .i64 b.xs.length, .int .i64 xb0, .int .i64 xb1, .int .i64 xb2, .int .i64 xb3, .int .i64 sb0, .int .i64 sb1, .int .i64 sb2, .int .i64 sb3, .int .i64 b.off, .int .i64 b.st, .int .i64 Db, .slice yb nb kb] [.int .i64 o.xs.length, .int .i64 xo0, .int .i64 xo1, .int .i64 xo2, .int .i64 xo3, .int .i64 so0, .int .i64 so1, .int .i64 so2, .int .i64 so3, .int .i64 o.off, .int .i64 o.st, .int .i64 Do, .slice yo no ko] W) w3) := HI2.out.keep b3
  clear b3 HS6 SA HI2 b0 r0 r1 f0 f1 pa0 pa1 pa2 pa3 pa4 pa5 pa6 pa7 pa8 pa9 pa10 pa11 pa12 pb0 pb1 pb2 pb3 pb4 pb5 pb6 pb7 pb8 pb9 pb10 pb11 pb12 po0 po1 po2 po3 po4 po5 po6 po7 po8 po9 po10 po11 po12
  simp only [Act.put, List.setIfInBounds_toArray, List.set_cons_zero, List.set_cons_succ]
  have b0 := HI3.out.h
  have r0 := HI3.out.r0
  have r1 := HI3.out.r1
  have f0 := HI3.out.fz 0
  have f1 := HI3.out.fz 1
  have pa0 : w3.cell? ⟨B1, 0, none⟩ = some (.int .i64 a.xs.length) := HI3.out.c1 0 _ rfl
  have pa1 : w3.cell? ⟨B1, 1, none⟩ = some (.int .i64 xa0) := HI3.out.c1 1 _ rfl
  have pa2 : w3.cell? ⟨B1, 2, none⟩ = some (.int .i64 xa1) := HI3.out.c1 2 _ rfl
  have pa3 : w3.cell? ⟨B1, 3, none⟩ = some (.int .i64 xa2) := HI3.out.c1 3 _ rfl
  have pa4 : w3.cell? ⟨B1, 4, none⟩ = some (.int .i64 xa3) := HI3.out.c1 4 _ rfl
  have pa5 : w3.cell? ⟨B1, 5, none⟩ = some (.int .i64 sa0) := HI3.out.c1 5 _ rfl
  have pa6 : w3.cell? ⟨B1, 6, none⟩ = some (.int .i64 sa1) := HI3.out.c1 6 _ rfl
  have pa7 : w3.cell? ⟨B1, 7, none⟩ = some (.int .i64 sa2) := HI3.out.c1 7 _ rfl
  have pa8 : w3.cell? ⟨B1, 8, none⟩ = some (.int .i64 sa3) := HI3.out.c1 8 _ rfl
  have pa9 : w3.cell? ⟨B1, 9, none⟩ = some (.int .i64 a.off) := HI3.out.c1 9 _ rfl
  have pa10 : w3.cell? ⟨B1, 10, none⟩ = some (.int .i64 a.st) := HI3.out.c1 10 _ rfl
  have pa11 : w3.cell? ⟨B1, 11, none⟩ = some (.int .i64 Da) := HI3.out.c1 11 _ rfl
  have pa12 : w3.cell? ⟨B1, 12, none⟩ = some (.slice ya na ka) := HI3.out.c1 12 _ rfl
  have pb0 : w3.cell? ⟨B2, 0, none⟩ = some (.int .i64 b.xs.length) := HI3.out.c2 0 _ rfl
  have pb1 : w3.cell? ⟨B2, 1, none⟩ = some (.int .i64 xb0) := HI3.out.c2 1 _ rfl
  have pb2 : w3.cell? ⟨B2, 2, none⟩ = some (.int .i64 xb1) := HI3.out.c2 2 _ rfl
  have pb3 : w3.cell? ⟨B2, 3, none⟩ = some (.int .i64 xb2) := HI3.out.c2 3 _ rfl
  have pb4 : w3.cell? ⟨B2, 4, none⟩ = some (.int .i64 xb3) := HI3.out.c2 4 _ rfl
  have pb5 : w3.cell? ⟨B2, 5, none⟩ = some (.int .i64 sb0) := HI3.out.c2 5 _ rfl
  have pb6 : w3.cell? ⟨B2, 6, none⟩ = some (.int .i64 sb1) := HI3.out.c2 6 _ rfl
  have pb7 : w3.cell? ⟨B2, 7, none⟩ = some (.int .i64 sb2) := HI3.out.c2 7 _ rfl
  have pb8 : w3.cell? ⟨B2, 8, none⟩ = some (.int .i64 sb3) := HI3.out.c2 8 _ rfl
  have pb9 : w3.cell? ⟨B2, 9, none⟩ = some (.int .i64 b.off) := HI3.out.c2 9 _ rfl
  have pb10 : w3.cell? ⟨B2, 10, none⟩ = some (.int .i64 b.st) := HI3.out.c2 10 _ rfl
  have pb11 : w3.cell? ⟨B2, 11, none⟩ = some (.int .i64 Db) := HI3.out.c2 11 _ rfl
  have pb12 : w3.cell? ⟨B2, 12, none⟩ = some (.slice yb nb kb) := HI3.out.c2 12 _ rfl
  have po0 : w3.cell? ⟨B3, 0, none⟩ = some (.int .i64 o.xs.length) := HI3.out.c3 0 _ rfl
  have po1 : w3.cell? ⟨B3, 1, none⟩ = some (.int .i64 xo0) := HI3.out.c3 1 _ rfl
  have po2 : w3.cell? ⟨B3, 2, none⟩ = some (.int .i64 xo1) := HI3.out.c3 2 _ rfl
  have po3 : w3.cell? ⟨B3, 3, none⟩ = some (.int .i64 xo2) := HI3.out.c3 3 _ rfl
  have po4 : w3.cell? ⟨B3, 4, none⟩ = some (.int .i64 xo3) := HI3.out.c3 4 _ rfl
  have po5 : w3.cell? ⟨B3, 5, none⟩ = some (.int .i64 so0) := HI3.out.c3 5 _ rfl
  have po6 : w3.cell? ⟨B3, 6, none⟩ = some (.int .i64 so1) := HI3.out.c3 6 _ rfl
  have po7 : w3.cell? ⟨B3, 7, none⟩ = some (.int .i64 so2) := HI3.out.c3 7 _ rfl
  have po8 : w3.cell? ⟨B3, 8, none⟩ = some (.int .i64 so3) := HI3.out.c3 8 _ rfl
  have po9 : w3.cell? ⟨B3, 9, none⟩ = some (.int .i64 o.off) := HI3.out.c3 9 _ rfl
  have po10 : w3.cell? ⟨B3, 10, none⟩ = some (.int .i64 o.st) := HI3.out.c3 10 _ rfl
  have po11 : w3.cell? ⟨B3, 11, none⟩ = some (.int .i64 Do) := HI3.out.c3 11 _ rfl
  have po12 : w3.cell? ⟨B3, 12, none⟩ = some (.slice yo no ko) := HI3.out.c3 12 _ rfl
  have HS8 : Hid (∀ W, Bel w3 W → (fun w' : World => w'.cell? ⟨B3, 0, none⟩ = some (.int .i64 o.xs.length) ∧ w'.cell? ⟨B3, 1, none⟩ = some (.int .i64 xo0) ∧ w'.cell? ⟨B3, 2, none⟩ = some (.int .i64 xo1) ∧ w'.cell? ⟨B3, 3, none⟩ = some (.int .i64 xo2) ∧ w'.cell? ⟨B3, 4, none⟩ = some (.int .i64 xo3) ∧ w'.cell? ⟨B3, 5, none⟩ = some (.int .i64 so0) ∧ w'.cell? ⟨B3, 6, none⟩ = some (.int .i64 so1) ∧ w'.cell? ⟨B3, 7, none⟩ = some (.int .i64 so2) ∧ w'.cell? ⟨B3, 8, none⟩ = some (.int .i64 so3) ∧ w'.cell? ⟨B3, 9, none⟩ = some (.int .i64 o.off) ∧ w'.cell? ⟨B3, 10, none⟩ = some (.int .i64 o.st) ∧ w'.cell? ⟨B3, 11, none⟩ = some (.int .i64 Do) ∧ w'.cell? ⟨B3, 12, none⟩ = some (.slice yo no ko)) W) := fun W x => ⟨Bel.box x po0, Bel.box x po1, Bel.box x po2, Bel.box x po3, Bel.box x po4, Bel.box x po5, Bel.box x po6, Bel.box x po7, Bel.box x po8, Bel.box x po9, Bel.box x po10, Bel.box x po11, Bel.box x po12⟩
  have HB3d : Hid (Bel w3 w3.drew) := (Ext.refl w3).drew.bl
  have SA := hide (HS8.out w3.drew HB3d.out)
  obtain ⟨wcv, HWV⟩ : ∃ z, Hid (wrC (decide (offsL o.xs o.sv o.off).Nodup) (castL 8 Do 1) = z) := ⟨_, rfl⟩
  have HWC : Hid (∀ W, Calls Tryz.prog 38 #[.agg #[.int .i64 o.xs.length, .int .i64 xo0, .int .i64 xo1, .int .i64 xo2, .int .i64 xo3, .int .i64 so0, .int .i64 so1, .int .i64 so2, .int .i64 so3, .int .i64 o.off, .int .i64 o.st, .int .i64 Do, .slice yo no ko], .int .i64 8] W fun e w' => e = .returned (.int .i64 wcv) ∧ Bel W w') := fun W => by
    rw [← Hxo0.out, ← Hxo1.out, ← Hxo2.out, ← Hxo3.out, ← Hso0.out, ← Hso1.out, ← Hso2.out, ← Hso3.out, ← HWV.out]
    exact writeCode_any o.xs o.sv o.off o.st Do _ hgo.2.1 W
  obtain ⟨c6, H6⟩ : ∃ z : Int, Hid ((if (!ft) = true then (6 : Int) else 0) = z) := ⟨_, rfl⟩
  have HC6 : Hid (∀ W, Calls Tryz.prog 37 #[.bool (!ft), .int .i64 6] W fun e w' => e = .returned (.int .i64 c6) ∧ w' = W) := fun W => by
    rw [← H6.out]
    exact codeIf_any _ _ W
  have hda : Hid (a.dt ss = Da) := Hda.out
  have hdb : Hid (b.dt ss = Db) := Hdb.out
  have hdo : Hid (o.dt ss = Do) := Hdo.out
  have hdbl : Hid (dblB ss a b o = decide (Da = 8 ∧ Db = 8 ∧ Do = 8)) := by
    show dblB ss a b o = _
    unfold dblB
    rw [hda.out, hdb.out, hdo.out]
  have h4 : Hid (dblB ss a b o = false → solveC ss a b o = 4) := fun q => by unfold solveC; rw [hfe, if_neg (by simp), if_pos q]
  have h5 : Hid (dblB ss a b o = true → solveC ss a b o = if fitB a b o = false then 6 else if WrV o.xs o.sv o.off then (if ((sys0 ss a b).elim (solN b)).isSome then 0 else 11) else 9) := fun q => by unfold solveC; rw [hfe, if_neg (by simp), if_neg (by rw [q]; simp)]
  have hw9 : wcv = 0 ∨ 9 ≤ wcv := by rw [← HWV.out]; exact wrC_or _ _
  have hc6 : c6 = 0 ∨ c6 = 6 := by rw [← H6.out]; cases ft <;> simp
  by_cases k1 : Da = 8
  · subst k1
    by_cases k2 : Db = 8
    · subst k2
      by_cases k3 : Do = 8
      · subst k3
        have hD : dblB ss a b o = true := by rw [hdbl.out]; rfl
        have h6 := hide (h5.out hD)
        have HC4 : Hid (∀ W, Calls Tryz.prog 37 #[.bool false, .int .i64 4] W fun e w' => e = .returned (.int .i64 0) ∧ w' = W) := fun W => codeIf_any false 4 W
        clear h4 h5 hdbl
        go_wp2_with fail
        go_region_held3 (fun w' : World => w'.cell? ⟨B3, 0, none⟩ = some (.int .i64 o.xs.length) ∧ w'.cell? ⟨B3, 1, none⟩ = some (.int .i64 xo0) ∧ w'.cell? ⟨B3, 2, none⟩ = some (.int .i64 xo1) ∧ w'.cell? ⟨B3, 3, none⟩ = some (.int .i64 xo2) ∧ w'.cell? ⟨B3, 4, none⟩ = some (.int .i64 xo3) ∧ w'.cell? ⟨B3, 5, none⟩ = some (.int .i64 so0) ∧ w'.cell? ⟨B3, 6, none⟩ = some (.int .i64 so1) ∧ w'.cell? ⟨B3, 7, none⟩ = some (.int .i64 so2) ∧ w'.cell? ⟨B3, 8, none⟩ = some (.int .i64 so3) ∧ w'.cell? ⟨B3, 9, none⟩ = some (.int .i64 o.off) ∧ w'.cell? ⟨B3, 10, none⟩ = some (.int .i64 o.st) ∧ w'.cell? ⟨B3, 11, none⟩ = some (.int .i64 8) ∧ w'.cell? ⟨B3, 12, none⟩ = some (.slice yo no ko)) (first | with_reducible exact SA.out | with_reducible exact SB.out | exact SA.out | exact SB.out | exact HS8.out _ (HB4.out.alloc HB4.out.size _)) (first | (go_at_call 37; refine (HC4.out _).mono ?_; rintro e w' ⟨rfl, rfl⟩) | (go_at_call 37; refine (HC6.out _).mono ?_; rintro e w' ⟨rfl, rfl⟩) | (go_at_call 38; refine (HWC.out _).mono ?_; rintro e w4 ⟨rfl, b4⟩; have HB4 := hide (Bel.tr HB3d.out b4); have SB := hide (HS8.out w4 HB4.out); clear b4) | (go_at_call 36; refine (smallest_any (xs := [0, c6, wcv]) (row_new3 _ _ _ _ _) (by simp)).mono ?_; rintro e w' ⟨rfl, rfl⟩))
        cases ft with
        | false =>
          have h6' : c6 = 6 := by rw [← H6.out]; rfl
          subst h6'
          have hok := hide (h6.out.trans (if_pos HFT.out)).symm
          rw [small_6 hw9]
          have HI4 := hide (HI3.out.keep (HB4.out.alloc HB4.out.size (.cells #[.int .i64 0, .int .i64 6, .int .i64 wcv] 2)))
          generalize (w4.alloc (.cells #[.int .i64 0, .int .i64 6, .int .i64 wcv] 2)) = w5 at HI4 ⊢
          clear SA SB HB4 HS8 b0 r0 r1 f0 f1 pa0 pa1 pa2 pa3 pa4 pa5 pa6 pa7 pa8 pa9 pa10 pa11 pa12 pb0 pb1 pb2 pb3 pb4 pb5 pb6 pb7 pb8 pb9 pb10 pb11 pb12 po0 po1 po2 po3 po4 po5 po6 po7 po8 po9 po10 po11 po12
          have b0 := HI4.out.h
          have r0 := HI4.out.r0
          have r1 := HI4.out.r1
          have f0 := HI4.out.fz 0
          have f1 := HI4.out.fz 1
          go_wp2
          refine bodyPost_ret (v := .agg #[.int .i64 6, .slice none 0 0]) (by simp [results, Tryz.results11, go_sem, r0, r1]) rfl ⟨6, _, [], rfl, ⟨hok.out, .inl ⟨by first | exact hfc | omega, rfl⟩⟩, .inl ⟨rfl, rfl⟩, by (first | exact (HI4.out.bl.setCell (p := ⟨w.heap.size + 1 + 1 + 1 + 1, 0, none⟩) (by show _ ≤ w.heap.size + 1 + 1 + 1 + 1; omega) _).setCell (p := ⟨w.heap.size + 1 + 1 + 1 + 1, 1, none⟩) (by show _ ≤ w.heap.size + 1 + 1 + 1 + 1; omega) _ | exact HI4.out.bl.setCell (p := ⟨w.heap.size + 1 + 1 + 1 + 1, 0, none⟩) (by show _ ≤ w.heap.size + 1 + 1 + 1 + 1; omega) _)⟩
        | true =>
          have h0' : c6 = 0 := by rw [← H6.out]; rfl
          subst h0'
          have h7 := hide (h6.out.trans (if_neg (by rw [HFT.out]; simp)))
          by_cases hwr : WrV o.xs o.sv o.off
          · have h9' : wcv = 0 := by rw [← HWV.out, wrC_cast, if_pos (decide_eq_true hwr.2)]
            subst h9'
            rw [if_pos hwr] at h7
            rw [small_0]
            have HI5 : Hid ((fun W : World => IBx w w1 (.slice sa ss.length cap) B1 B2 B3 [.int .i64 a.xs.length, .int .i64 xa0, .int .i64 xa1, .int .i64 xa2, .int .i64 xa3, .int .i64 sa0, .int .i64 sa1, .int .i64 sa2, .int .i64 sa3, .int .i64 a.off, .int .i64 a.st, .int .i64 8, .slice ya na ka] [.int .i64 b.xs.length, .int .i64 xb0, .int .i64 xb1, .int .i64 xb2, .int .i64 xb3, .int .i64 sb0, .int .i64 sb1, .int .i64 sb2, .int .i64 sb3, .int .i64 b.off, .int .i64 b.st, .int .i64 8, .slice yb nb kb] [.int .i64 o.xs.length, .int .i64 xo0, .int .i64 xo1, .int .i64 xo2, .int .i64 xo3, .int .i64 so0, .int .i64 so1, .int .i64 so2, .int .i64 so3, .int .i64 o.off, .int .i64 o.st, .int .i64 8, .slice yo no ko] W) (w4.alloc (.cells #[.int .i64 0, .int .i64 0, .int .i64 0] 2))) := HI3.out.keep (HB4.out.alloc HB4.out.size _)
            generalize (w4.alloc (.cells #[.int .i64 0, .int .i64 0, .int .i64 0] 2)) = w5 at HI5 ⊢
            clear SA SB HB4 HS8 HC6 HC4 HWC HWV H6 b0 r0 r1 f0 f1 pa0 pa1 pa2 pa3 pa4 pa5 pa6 pa7 pa8 pa9 pa10 pa11 pa12 pb0 pb1 pb2 pb3 pb4 pb5 pb6 pb7 pb8 pb9 pb10 pb11 pb12 po0 po1 po2 po3 po4 po5 po6 po7 po8 po9 po10 po11 po12
            have b0 := HI5.out.h
            have r0 := HI5.out.r0
            have r1 := HI5.out.r1
            have f0 := HI5.out.fz 0
            have f1 := HI5.out.fz 1
            have pa0 : w5.cell? ⟨B1, 0, none⟩ = some (.int .i64 a.xs.length) := HI5.out.c1 0 _ rfl
            have pa1 : w5.cell? ⟨B1, 1, none⟩ = some (.int .i64 xa0) := HI5.out.c1 1 _ rfl
            have pa2 : w5.cell? ⟨B1, 2, none⟩ = some (.int .i64 xa1) := HI5.out.c1 2 _ rfl
            have pa3 : w5.cell? ⟨B1, 3, none⟩ = some (.int .i64 xa2) := HI5.out.c1 3 _ rfl
            have pa4 : w5.cell? ⟨B1, 4, none⟩ = some (.int .i64 xa3) := HI5.out.c1 4 _ rfl
            have pa5 : w5.cell? ⟨B1, 5, none⟩ = some (.int .i64 sa0) := HI5.out.c1 5 _ rfl
            have pa6 : w5.cell? ⟨B1, 6, none⟩ = some (.int .i64 sa1) := HI5.out.c1 6 _ rfl
            have pa7 : w5.cell? ⟨B1, 7, none⟩ = some (.int .i64 sa2) := HI5.out.c1 7 _ rfl
            have pa8 : w5.cell? ⟨B1, 8, none⟩ = some (.int .i64 sa3) := HI5.out.c1 8 _ rfl
            have pa9 : w5.cell? ⟨B1, 9, none⟩ = some (.int .i64 a.off) := HI5.out.c1 9 _ rfl
            have pa10 : w5.cell? ⟨B1, 10, none⟩ = some (.int .i64 a.st) := HI5.out.c1 10 _ rfl
            have pa11 : w5.cell? ⟨B1, 11, none⟩ = some (.int .i64 8) := HI5.out.c1 11 _ rfl
            have pa12 : w5.cell? ⟨B1, 12, none⟩ = some (.slice ya na ka) := HI5.out.c1 12 _ rfl
            have pb0 : w5.cell? ⟨B2, 0, none⟩ = some (.int .i64 b.xs.length) := HI5.out.c2 0 _ rfl
            have pb1 : w5.cell? ⟨B2, 1, none⟩ = some (.int .i64 xb0) := HI5.out.c2 1 _ rfl
            have pb2 : w5.cell? ⟨B2, 2, none⟩ = some (.int .i64 xb1) := HI5.out.c2 2 _ rfl
            have pb3 : w5.cell? ⟨B2, 3, none⟩ = some (.int .i64 xb2) := HI5.out.c2 3 _ rfl
            have pb4 : w5.cell? ⟨B2, 4, none⟩ = some (.int .i64 xb3) := HI5.out.c2 4 _ rfl
            have pb5 : w5.cell? ⟨B2, 5, none⟩ = some (.int .i64 sb0) := HI5.out.c2 5 _ rfl
            have pb6 : w5.cell? ⟨B2, 6, none⟩ = some (.int .i64 sb1) := HI5.out.c2 6 _ rfl
            have pb7 : w5.cell? ⟨B2, 7, none⟩ = some (.int .i64 sb2) := HI5.out.c2 7 _ rfl
            have pb8 : w5.cell? ⟨B2, 8, none⟩ = some (.int .i64 sb3) := HI5.out.c2 8 _ rfl
            have pb9 : w5.cell? ⟨B2, 9, none⟩ = some (.int .i64 b.off) := HI5.out.c2 9 _ rfl
            have pb10 : w5.cell? ⟨B2, 10, none⟩ = some (.int .i64 b.st) := HI5.out.c2 10 _ rfl
            have pb11 : w5.cell? ⟨B2, 11, none⟩ = some (.int .i64 8) := HI5.out.c2 11 _ rfl
            have pb12 : w5.cell? ⟨B2, 12, none⟩ = some (.slice yb nb kb) := HI5.out.c2 12 _ rfl
            have po0 : w5.cell? ⟨B3, 0, none⟩ = some (.int .i64 o.xs.length) := HI5.out.c3 0 _ rfl
            have po1 : w5.cell? ⟨B3, 1, none⟩ = some (.int .i64 xo0) := HI5.out.c3 1 _ rfl
            have po2 : w5.cell? ⟨B3, 2, none⟩ = some (.int .i64 xo1) := HI5.out.c3 2 _ rfl
            have po3 : w5.cell? ⟨B3, 3, none⟩ = some (.int .i64 xo2) := HI5.out.c3 3 _ rfl
            have po4 : w5.cell? ⟨B3, 4, none⟩ = some (.int .i64 xo3) := HI5.out.c3 4 _ rfl
            have po5 : w5.cell? ⟨B3, 5, none⟩ = some (.int .i64 so0) := HI5.out.c3 5 _ rfl
            have po6 : w5.cell? ⟨B3, 6, none⟩ = some (.int .i64 so1) := HI5.out.c3 6 _ rfl
            have po7 : w5.cell? ⟨B3, 7, none⟩ = some (.int .i64 so2) := HI5.out.c3 7 _ rfl
            have po8 : w5.cell? ⟨B3, 8, none⟩ = some (.int .i64 so3) := HI5.out.c3 8 _ rfl
            have po9 : w5.cell? ⟨B3, 9, none⟩ = some (.int .i64 o.off) := HI5.out.c3 9 _ rfl
            have po10 : w5.cell? ⟨B3, 10, none⟩ = some (.int .i64 o.st) := HI5.out.c3 10 _ rfl
            have po11 : w5.cell? ⟨B3, 11, none⟩ = some (.int .i64 8) := HI5.out.c3 11 _ rfl
            have po12 : w5.cell? ⟨B3, 12, none⟩ = some (.slice yo no ko) := HI5.out.c3 12 _ rfl
            obtain ⟨hsq, hal, hbl, hax, hbx, hox, hn4⟩ := sys0_sq HFT.out hga hgb
            obtain ⟨n, HN⟩ : ∃ n : Nat, Hid (solN b = n) := ⟨_, rfl⟩
            obtain ⟨BL, HBL⟩ : ∃ BL : List C3, Hid (b.rd ss = BL) := ⟨_, rfl⟩
            rw [HN.out] at hbl hn4 hsq
            rw [HBL.out] at hbl
            have HBN := hide hbl
            have HSQ := hide hsq
            have HOX := hide hox
            have HGB : Hid (CG BL) := by show CG BL; rw [← HBL.out]; exact rd_good hg hgb
            obtain ⟨Bf, HBf⟩ : ∃ Bf : List Nat, Hid (BL.map (·.2.1) = Bf) := ⟨_, rfl⟩
            have hBfl : Hid (Bf.length = n) := by show _ = _; rw [← HBf.out, List.length_map]; exact HBN.out
            have hstb := hgb.1
            have hsta := hga.1
            have hsto := hgo.1
            have HUa : Hid (CV w1 (.slice ya na ka) (ss.getD a.st.toNat s0).2) := by
              have := HU1.out a.st.toNat (by omega)
              rw [Hua.out] at this
              exact this
            have HUb : Hid (CV w1 (.slice yb nb kb) (ss.getD b.st.toNat s0).2) := by
              have := HU1.out b.st.toNat (by omega)
              rw [Hub.out] at this
              exact this
            have HRB : Hid (∀ W, Bel w1 W → Calls Tryz.prog 40 #[.agg #[.int .i64 b.xs.length, .int .i64 xb0, .int .i64 xb1, .int .i64 xb2, .int .i64 xb3, .int .i64 sb0, .int .i64 sb1, .int .i64 sb2, .int .i64 sb3, .int .i64 b.off, .int .i64 b.st, .int .i64 8, .slice yb nb kb]] W fun e w' => ∃ sR cR, e = .returned (.slice sR n cR) ∧ CV w' (.slice sR n cR) BL ∧ Bel W w') := fun W x => by
              have h1 := HUb.out.keep x
              have h0 := Hnb.out
              rw [← h0] at h1
              have h2 := callsIn_wide.1 (read_in 3 (Nat.le_refl _) b.xs b.sv b.off b.st 8 h1 (hl.at b.st.toNat (by omega)) hgb.2.1 hgb.2.2)
              rw [Hxb0.out, Hxb1.out, Hxb2.out, Hxb3.out, Hsb0.out, Hsb1.out, Hsb2.out, Hsb3.out, h0] at h2
              refine h2.mono ?_
              rintro e w' ⟨sR, cR, rfl, hO, hB⟩
              have hO2 : OwnC w' W.heap.size sR (b.rd ss) := hO
              refine ⟨sR, cR, ?_, ⟨sR, cR, by rw [HBN.out], ?_⟩, hB⟩
              · show Ending.returned (.slice sR (b.rd ss).length cR) = _
                rw [HBL.out, HBN.out]
              · rw [HBL.out] at hO2
                exact hO2.imp id fun ⟨g, q1, q2, q3, q4⟩ => ⟨g, 0, q1, q3⟩
            clear hax hbx hox hal hbl hsq
            go_wp2_with fail
            refine (HRB.out _ HI5.out.b1).mono ?_
            rintro e w6 ⟨sR, cR, rfl, hcR, b6⟩
            have HI6 : Hid ((fun W : World => IBx w w1 (.slice sa ss.length cap) B1 B2 B3 [.int .i64 a.xs.length, .int .i64 xa0, .int .i64 xa1, .int .i64 xa2, .int .i64 xa3, .int .i64 sa0, .int .i64 sa1, .int .i64 sa2, .int .i64 sa3, .int .i64 a.off, .int .i64 a.st, .int .i64 8, .slice ya na ka] [.int .i64 b.xs.length, .int .i64 xb0, .int .i64 xb1, .int .i64 xb2, .int .i64 xb3, .int .i64 sb0, .int .i64 sb1, .int .i64 sb2, .int .i64 sb3, .int .i64 b.off, .int .i64 b.st, .int .i64 8, .slice yb nb kb] [.int .i64 o.xs.length, .int .i64 xo0, .int .i64 xo1, .int .i64 xo2, .int .i64 xo3, .int .i64 so0, .int .i64 so1, .int .i64 so2, .int .i64 so3, .int .i64 o.off, .int .i64 o.st, .int .i64 8, .slice yo no ko] W) w6) := HI5.out.keep b6
            have HB6 := hide b6
            have HFO : Hid (Calls Tryz.prog 39 #[.slice sR n cR] w6 fun e w' => ∃ b, e = .returned (.slice (some ⟨b, 0, none⟩) n n) ∧ FRow w' b Bf ∧ w6.heap.size ≤ b ∧ Bel w6 w') := by
              have h1 := hcR
              rw [← HBN.out] at h1
              have h2 := floatsOf_any h1 (bs_b64 HGB.out) (by rw [HBN.out]; exact hn4)
              rw [HBN.out, HBf.out] at h2
              exact h2
            clear b6 hcR HRB b0 r0 r1 f0 f1 pa0 pa1 pa2 pa3 pa4 pa5 pa6 pa7 pa8 pa9 pa10 pa11 pa12 pb0 pb1 pb2 pb3 pb4 pb5 pb6 pb7 pb8 pb9 pb10 pb11 pb12 po0 po1 po2 po3 po4 po5 po6 po7 po8 po9 po10 po11 po12
            have b0 := HI6.out.h
            have r0 := HI6.out.r0
            have r1 := HI6.out.r1
            have f0 := HI6.out.fz 0
            have f1 := HI6.out.fz 1
            have pa0 : w6.cell? ⟨B1, 0, none⟩ = some (.int .i64 a.xs.length) := HI6.out.c1 0 _ rfl
            have pa1 : w6.cell? ⟨B1, 1, none⟩ = some (.int .i64 xa0) := HI6.out.c1 1 _ rfl
            have pa2 : w6.cell? ⟨B1, 2, none⟩ = some (.int .i64 xa1) := HI6.out.c1 2 _ rfl
            have pa3 : w6.cell? ⟨B1, 3, none⟩ = some (.int .i64 xa2) := HI6.out.c1 3 _ rfl
            have pa4 : w6.cell? ⟨B1, 4, none⟩ = some (.int .i64 xa3) := HI6.out.c1 4 _ rfl
            have pa5 : w6.cell? ⟨B1, 5, none⟩ = some (.int .i64 sa0) := HI6.out.c1 5 _ rfl
            have pa6 : w6.cell? ⟨B1, 6, none⟩ = some (.int .i64 sa1) := HI6.out.c1 6 _ rfl
            have pa7 : w6.cell? ⟨B1, 7, none⟩ = some (.int .i64 sa2) := HI6.out.c1 7 _ rfl
            have pa8 : w6.cell? ⟨B1, 8, none⟩ = some (.int .i64 sa3) := HI6.out.c1 8 _ rfl
            have pa9 : w6.cell? ⟨B1, 9, none⟩ = some (.int .i64 a.off) := HI6.out.c1 9 _ rfl
            have pa10 : w6.cell? ⟨B1, 10, none⟩ = some (.int .i64 a.st) := HI6.out.c1 10 _ rfl
            have pa11 : w6.cell? ⟨B1, 11, none⟩ = some (.int .i64 8) := HI6.out.c1 11 _ rfl
            have pa12 : w6.cell? ⟨B1, 12, none⟩ = some (.slice ya na ka) := HI6.out.c1 12 _ rfl
            have pb0 : w6.cell? ⟨B2, 0, none⟩ = some (.int .i64 b.xs.length) := HI6.out.c2 0 _ rfl
            have pb1 : w6.cell? ⟨B2, 1, none⟩ = some (.int .i64 xb0) := HI6.out.c2 1 _ rfl
            have pb2 : w6.cell? ⟨B2, 2, none⟩ = some (.int .i64 xb1) := HI6.out.c2 2 _ rfl
            have pb3 : w6.cell? ⟨B2, 3, none⟩ = some (.int .i64 xb2) := HI6.out.c2 3 _ rfl
            have pb4 : w6.cell? ⟨B2, 4, none⟩ = some (.int .i64 xb3) := HI6.out.c2 4 _ rfl
            have pb5 : w6.cell? ⟨B2, 5, none⟩ = some (.int .i64 sb0) := HI6.out.c2 5 _ rfl
            have pb6 : w6.cell? ⟨B2, 6, none⟩ = some (.int .i64 sb1) := HI6.out.c2 6 _ rfl
            have pb7 : w6.cell? ⟨B2, 7, none⟩ = some (.int .i64 sb2) := HI6.out.c2 7 _ rfl
            have pb8 : w6.cell? ⟨B2, 8, none⟩ = some (.int .i64 sb3) := HI6.out.c2 8 _ rfl
            have pb9 : w6.cell? ⟨B2, 9, none⟩ = some (.int .i64 b.off) := HI6.out.c2 9 _ rfl
            have pb10 : w6.cell? ⟨B2, 10, none⟩ = some (.int .i64 b.st) := HI6.out.c2 10 _ rfl
            have pb11 : w6.cell? ⟨B2, 11, none⟩ = some (.int .i64 8) := HI6.out.c2 11 _ rfl
            have pb12 : w6.cell? ⟨B2, 12, none⟩ = some (.slice yb nb kb) := HI6.out.c2 12 _ rfl
            have po0 : w6.cell? ⟨B3, 0, none⟩ = some (.int .i64 o.xs.length) := HI6.out.c3 0 _ rfl
            have po1 : w6.cell? ⟨B3, 1, none⟩ = some (.int .i64 xo0) := HI6.out.c3 1 _ rfl
            have po2 : w6.cell? ⟨B3, 2, none⟩ = some (.int .i64 xo1) := HI6.out.c3 2 _ rfl
            have po3 : w6.cell? ⟨B3, 3, none⟩ = some (.int .i64 xo2) := HI6.out.c3 3 _ rfl
            have po4 : w6.cell? ⟨B3, 4, none⟩ = some (.int .i64 xo3) := HI6.out.c3 4 _ rfl
            have po5 : w6.cell? ⟨B3, 5, none⟩ = some (.int .i64 so0) := HI6.out.c3 5 _ rfl
            have po6 : w6.cell? ⟨B3, 6, none⟩ = some (.int .i64 so1) := HI6.out.c3 6 _ rfl
            have po7 : w6.cell? ⟨B3, 7, none⟩ = some (.int .i64 so2) := HI6.out.c3 7 _ rfl
            have po8 : w6.cell? ⟨B3, 8, none⟩ = some (.int .i64 so3) := HI6.out.c3 8 _ rfl
            have po9 : w6.cell? ⟨B3, 9, none⟩ = some (.int .i64 o.off) := HI6.out.c3 9 _ rfl
            have po10 : w6.cell? ⟨B3, 10, none⟩ = some (.int .i64 o.st) := HI6.out.c3 10 _ rfl
            have po11 : w6.cell? ⟨B3, 11, none⟩ = some (.int .i64 8) := HI6.out.c3 11 _ rfl
            have po12 : w6.cell? ⟨B3, 12, none⟩ = some (.slice yo no ko) := HI6.out.c3 12 _ rfl
            go_wp2_with fail
            refine HFO.out.mono ?_
            rintro e w7 ⟨hB, rfl, hFB, hBlo, b7⟩
            have HI7 : Hid ((fun W : World => IBx w w1 (.slice sa ss.length cap) B1 B2 B3 [.int .i64 a.xs.length, .int .i64 xa0, .int .i64 xa1, .int .i64 xa2, .int .i64 xa3, .int .i64 sa0, .int .i64 sa1, .int .i64 sa2, .int .i64 sa3, .int .i64 a.off, .int .i64 a.st, .int .i64 8, .slice ya na ka] [.int .i64 b.xs.length, .int .i64 xb0, .int .i64 xb1, .int .i64 xb2, .int .i64 xb3, .int .i64 sb0, .int .i64 sb1, .int .i64 sb2, .int .i64 sb3, .int .i64 b.off, .int .i64 b.st, .int .i64 8, .slice yb nb kb] [.int .i64 o.xs.length, .int .i64 xo0, .int .i64 xo1, .int .i64 xo2, .int .i64 xo3, .int .i64 so0, .int .i64 so1, .int .i64 so2, .int .i64 so3, .int .i64 o.off, .int .i64 o.st, .int .i64 8, .slice yo no ko] W) w7) := HI6.out.keep b7
            have hBlt : hB < w7.heap.size ∨ n = 0 := by
              rcases Nat.eq_zero_or_pos n with q | q
              · exact Or.inr q
              · exact Or.inl (cell_lt (hFB.cell 0 (by rw [hBfl.out]; exact q)))
            have HFB := hide hFB
            have HB57 := hide (Bel.tr HB6.out b7)
            have hs56 := HB6.out.size
            have x8 : Ext w7 (w7.alloc (.cells #[.slice none 0 0, .slice (some ⟨hB, 0, none⟩) n n] 94)) := (Ext.refl w7).alloc _ _
            have n8 := fun j => new_cell w7 #[.slice none 0 0, .slice (some ⟨hB, 0, none⟩) n n] 94 w7.heap.size rfl j
            have HI8 : Hid ((fun W : World => IBx w w1 (.slice sa ss.length cap) B1 B2 B3 [.int .i64 a.xs.length, .int .i64 xa0, .int .i64 xa1, .int .i64 xa2, .int .i64 xa3, .int .i64 sa0, .int .i64 sa1, .int .i64 sa2, .int .i64 sa3, .int .i64 a.off, .int .i64 a.st, .int .i64 8, .slice ya na ka] [.int .i64 b.xs.length, .int .i64 xb0, .int .i64 xb1, .int .i64 xb2, .int .i64 xb3, .int .i64 sb0, .int .i64 sb1, .int .i64 sb2, .int .i64 sb3, .int .i64 b.off, .int .i64 b.st, .int .i64 8, .slice yb nb kb] [.int .i64 o.xs.length, .int .i64 xo0, .int .i64 xo1, .int .i64 xo2, .int .i64 xo3, .int .i64 so0, .int .i64 so1, .int .i64 so2, .int .i64 so3, .int .i64 o.off, .int .i64 o.st, .int .i64 8, .slice yo no ko] W) (w7.alloc (.cells #[.slice none 0 0, .slice (some ⟨hB, 0, none⟩) n n] 94))) := HI7.out.keep x8.bl
            have HEA : Hid (Calls Tryz.prog 41 #[.agg #[.int .i64 a.xs.length, .int .i64 xa0, .int .i64 xa1, .int .i64 xa2, .int .i64 xa3, .int .i64 sa0, .int .i64 sa1, .int .i64 sa2, .int .i64 sa3, .int .i64 a.off, .int .i64 a.st, .int .i64 8, .slice ya na ka], .int .i64 1, .func (.func 42) #[] #[.pointer (some ⟨w7.heap.size, 0, none⟩)]] (w7.alloc (.cells #[.slice none 0 0, .slice (some ⟨hB, 0, none⟩) n n] 94)) fun e w' => e = .returned (.tuple #[]) ∧ ∃ vA, w'.cell? ⟨w7.heap.size, 0, none⟩ = some vA ∧ w'.cell? ⟨w7.heap.size, 1, none⟩ = some (.slice (some ⟨hB, 0, none⟩) n n) ∧ TS (fun c => w5.heap.size ≤ c ∧ c ≠ w7.heap.size) w' n vA (.slice (some ⟨hB, 0, none⟩) n n) (sys0 ss a b) ∧ Bel w5 w') := by
              rcases hBlt with hlt | hz
              · have h2 := eachT (P := fun c => w5.heap.size ≤ c ∧ c ≠ w7.heap.size) (w0 := w5) (u := .slice ya na ka) (dt := 8) (sB := w7.heap.size) (hB := hB) (Bf := Bf) HFT.out hg hl hga hgb (HUa.out.keep HI8.out.b1) (Bel.tr HB57.out x8.bl) HB57.out.size (n8 0) (by rw [HN.out]; exact n8 1) (x8.unfrozen (Nat.le_refl _) 0) (hFB.block (x8.bl.block hB hlt)) (by rw [HBL.out, HBf.out]) hlt ⟨by omega, by omega⟩ (fun c hc => by have := HB57.out.size; rw [World.size_alloc] at hc; exact ⟨by omega, by omega⟩)
                rw [Hxa0.out, Hxa1.out, Hxa2.out, Hxa3.out, Hsa0.out, Hsa1.out, Hsa2.out, Hsa3.out, HN.out] at h2
                exact h2
              · have h2 := eachZ (P := fun c => w5.heap.size ≤ c ∧ c ≠ w7.heap.size) (w0 := w5) (dt := 8) (sB := w7.heap.size) (hB := hB) HFT.out hga hgb (by rw [HN.out]; exact hz) (HUa.out.keep HI8.out.b1) (Bel.tr HB57.out x8.bl) (n8 0) (by rw [HN.out]; exact n8 1)
                rw [Hxa0.out, Hxa1.out, Hxa2.out, Hxa3.out, Hsa0.out, Hsa1.out, Hsa2.out, Hsa3.out, HN.out] at h2
                exact h2
            clear b7 hFB n8 x8 hBlt HFO b0 r0 r1 f0 f1 pa0 pa1 pa2 pa3 pa4 pa5 pa6 pa7 pa8 pa9 pa10 pa11 pa12 pb0 pb1 pb2 pb3 pb4 pb5 pb6 pb7 pb8 pb9 pb10 pb11 pb12 po0 po1 po2 po3 po4 po5 po6 po7 po8 po9 po10 po11 po12
            have b0 := HI8.out.h
            have r0 := HI8.out.r0
            have r1 := HI8.out.r1
            have f0 := HI8.out.fz 0
            have f1 := HI8.out.fz 1
            have pa0 : (w7.alloc (.cells #[.slice none 0 0, .slice (some ⟨hB, 0, none⟩) n n] 94)).cell? ⟨B1, 0, none⟩ = some (.int .i64 a.xs.length) := HI8.out.c1 0 _ rfl
            have pa1 : (w7.alloc (.cells #[.slice none 0 0, .slice (some ⟨hB, 0, none⟩) n n] 94)).cell? ⟨B1, 1, none⟩ = some (.int .i64 xa0) := HI8.out.c1 1 _ rfl
            have pa2 : (w7.alloc (.cells #[.slice none 0 0, .slice (some ⟨hB, 0, none⟩) n n] 94)).cell? ⟨B1, 2, none⟩ = some (.int .i64 xa1) := HI8.out.c1 2 _ rfl
            have pa3 : (w7.alloc (.cells #[.slice none 0 0, .slice (some ⟨hB, 0, none⟩) n n] 94)).cell? ⟨B1, 3, none⟩ = some (.int .i64 xa2) := HI8.out.c1 3 _ rfl
            have pa4 : (w7.alloc (.cells #[.slice none 0 0, .slice (some ⟨hB, 0, none⟩) n n] 94)).cell? ⟨B1, 4, none⟩ = some (.int .i64 xa3) := HI8.out.c1 4 _ rfl
            have pa5 : (w7.alloc (.cells #[.slice none 0 0, .slice (some ⟨hB, 0, none⟩) n n] 94)).cell? ⟨B1, 5, none⟩ = some (.int .i64 sa0) := HI8.out.c1 5 _ rfl
            have pa6 : (w7.alloc (.cells #[.slice none 0 0, .slice (some ⟨hB, 0, none⟩) n n] 94)).cell? ⟨B1, 6, none⟩ = some (.int .i64 sa1) := HI8.out.c1 6 _ rfl
            have pa7 : (w7.alloc (.cells #[.slice none 0 0, .slice (some ⟨hB, 0, none⟩) n n] 94)).cell? ⟨B1, 7, none⟩ = some (.int .i64 sa2) := HI8.out.c1 7 _ rfl
            have pa8 : (w7.alloc (.cells #[.slice none 0 0, .slice (some ⟨hB, 0, none⟩) n n] 94)).cell? ⟨B1, 8, none⟩ = some (.int .i64 sa3) := HI8.out.c1 8 _ rfl
            have pa9 : (w7.alloc (.cells #[.slice none 0 0, .slice (some ⟨hB, 0, none⟩) n n] 94)).cell? ⟨B1, 9, none⟩ = some (.int .i64 a.off) := HI8.out.c1 9 _ rfl
            have pa10 : (w7.alloc (.cells #[.slice none 0 0, .slice (some ⟨hB, 0, none⟩) n n] 94)).cell? ⟨B1, 10, none⟩ = some (.int .i64 a.st) := HI8.out.c1 10 _ rfl
            have pa11 : (w7.alloc (.cells #[.slice none 0 0, .slice (some ⟨hB, 0, none⟩) n n] 94)).cell? ⟨B1, 11, none⟩ = some (.int .i64 8) := HI8.out.c1 11 _ rfl
            have pa12 : (w7.alloc (.cells #[.slice none 0 0, .slice (some ⟨hB, 0, none⟩) n n] 94)).cell? ⟨B1, 12, none⟩ = some (.slice ya na ka) := HI8.out.c1 12 _ rfl
            have pb0 : (w7.alloc (.cells #[.slice none 0 0, .slice (some ⟨hB, 0, none⟩) n n] 94)).cell? ⟨B2, 0, none⟩ = some (.int .i64 b.xs.length) := HI8.out.c2 0 _ rfl
            have pb1 : (w7.alloc (.cells #[.slice none 0 0, .slice (some ⟨hB, 0, none⟩) n n] 94)).cell? ⟨B2, 1, none⟩ = some (.int .i64 xb0) := HI8.out.c2 1 _ rfl
            have pb2 : (w7.alloc (.cells #[.slice none 0 0, .slice (some ⟨hB, 0, none⟩) n n] 94)).cell? ⟨B2, 2, none⟩ = some (.int .i64 xb1) := HI8.out.c2 2 _ rfl
            have pb3 : (w7.alloc (.cells #[.slice none 0 0, .slice (some ⟨hB, 0, none⟩) n n] 94)).cell? ⟨B2, 3, none⟩ = some (.int .i64 xb2) := HI8.out.c2 3 _ rfl
            have pb4 : (w7.alloc (.cells #[.slice none 0 0, .slice (some ⟨hB, 0, none⟩) n n] 94)).cell? ⟨B2, 4, none⟩ = some (.int .i64 xb3) := HI8.out.c2 4 _ rfl
            have pb5 : (w7.alloc (.cells #[.slice none 0 0, .slice (some ⟨hB, 0, none⟩) n n] 94)).cell? ⟨B2, 5, none⟩ = some (.int .i64 sb0) := HI8.out.c2 5 _ rfl
            have pb6 : (w7.alloc (.cells #[.slice none 0 0, .slice (some ⟨hB, 0, none⟩) n n] 94)).cell? ⟨B2, 6, none⟩ = some (.int .i64 sb1) := HI8.out.c2 6 _ rfl
            have pb7 : (w7.alloc (.cells #[.slice none 0 0, .slice (some ⟨hB, 0, none⟩) n n] 94)).cell? ⟨B2, 7, none⟩ = some (.int .i64 sb2) := HI8.out.c2 7 _ rfl
            have pb8 : (w7.alloc (.cells #[.slice none 0 0, .slice (some ⟨hB, 0, none⟩) n n] 94)).cell? ⟨B2, 8, none⟩ = some (.int .i64 sb3) := HI8.out.c2 8 _ rfl
            have pb9 : (w7.alloc (.cells #[.slice none 0 0, .slice (some ⟨hB, 0, none⟩) n n] 94)).cell? ⟨B2, 9, none⟩ = some (.int .i64 b.off) := HI8.out.c2 9 _ rfl
            have pb10 : (w7.alloc (.cells #[.slice none 0 0, .slice (some ⟨hB, 0, none⟩) n n] 94)).cell? ⟨B2, 10, none⟩ = some (.int .i64 b.st) := HI8.out.c2 10 _ rfl
            have pb11 : (w7.alloc (.cells #[.slice none 0 0, .slice (some ⟨hB, 0, none⟩) n n] 94)).cell? ⟨B2, 11, none⟩ = some (.int .i64 8) := HI8.out.c2 11 _ rfl
            have pb12 : (w7.alloc (.cells #[.slice none 0 0, .slice (some ⟨hB, 0, none⟩) n n] 94)).cell? ⟨B2, 12, none⟩ = some (.slice yb nb kb) := HI8.out.c2 12 _ rfl
            have po0 : (w7.alloc (.cells #[.slice none 0 0, .slice (some ⟨hB, 0, none⟩) n n] 94)).cell? ⟨B3, 0, none⟩ = some (.int .i64 o.xs.length) := HI8.out.c3 0 _ rfl
            have po1 : (w7.alloc (.cells #[.slice none 0 0, .slice (some ⟨hB, 0, none⟩) n n] 94)).cell? ⟨B3, 1, none⟩ = some (.int .i64 xo0) := HI8.out.c3 1 _ rfl
            have po2 : (w7.alloc (.cells #[.slice none 0 0, .slice (some ⟨hB, 0, none⟩) n n] 94)).cell? ⟨B3, 2, none⟩ = some (.int .i64 xo1) := HI8.out.c3 2 _ rfl
            have po3 : (w7.alloc (.cells #[.slice none 0 0, .slice (some ⟨hB, 0, none⟩) n n] 94)).cell? ⟨B3, 3, none⟩ = some (.int .i64 xo2) := HI8.out.c3 3 _ rfl
            have po4 : (w7.alloc (.cells #[.slice none 0 0, .slice (some ⟨hB, 0, none⟩) n n] 94)).cell? ⟨B3, 4, none⟩ = some (.int .i64 xo3) := HI8.out.c3 4 _ rfl
            have po5 : (w7.alloc (.cells #[.slice none 0 0, .slice (some ⟨hB, 0, none⟩) n n] 94)).cell? ⟨B3, 5, none⟩ = some (.int .i64 so0) := HI8.out.c3 5 _ rfl
            have po6 : (w7.alloc (.cells #[.slice none 0 0, .slice (some ⟨hB, 0, none⟩) n n] 94)).cell? ⟨B3, 6, none⟩ = some (.int .i64 so1) := HI8.out.c3 6 _ rfl
            have po7 : (w7.alloc (.cells #[.slice none 0 0, .slice (some ⟨hB, 0, none⟩) n n] 94)).cell? ⟨B3, 7, none⟩ = some (.int .i64 so2) := HI8.out.c3 7 _ rfl
            have po8 : (w7.alloc (.cells #[.slice none 0 0, .slice (some ⟨hB, 0, none⟩) n n] 94)).cell? ⟨B3, 8, none⟩ = some (.int .i64 so3) := HI8.out.c3 8 _ rfl
            have po9 : (w7.alloc (.cells #[.slice none 0 0, .slice (some ⟨hB, 0, none⟩) n n] 94)).cell? ⟨B3, 9, none⟩ = some (.int .i64 o.off) := HI8.out.c3 9 _ rfl
            have po10 : (w7.alloc (.cells #[.slice none 0 0, .slice (some ⟨hB, 0, none⟩) n n] 94)).cell? ⟨B3, 10, none⟩ = some (.int .i64 o.st) := HI8.out.c3 10 _ rfl
            have po11 : (w7.alloc (.cells #[.slice none 0 0, .slice (some ⟨hB, 0, none⟩) n n] 94)).cell? ⟨B3, 11, none⟩ = some (.int .i64 8) := HI8.out.c3 11 _ rfl
            have po12 : (w7.alloc (.cells #[.slice none 0 0, .slice (some ⟨hB, 0, none⟩) n n] 94)).cell? ⟨B3, 12, none⟩ = some (.slice yo no ko) := HI8.out.c3 12 _ rfl
            go_wp2_with fail
            refine HEA.out.mono ?_
            rintro e w9 ⟨rfl, vA, hc0, hc1, hTS, b9⟩
            have HI9 : Hid ((fun W : World => IBx w w1 (.slice sa ss.length cap) B1 B2 B3 [.int .i64 a.xs.length, .int .i64 xa0, .int .i64 xa1, .int .i64 xa2, .int .i64 xa3, .int .i64 sa0, .int .i64 sa1, .int .i64 sa2, .int .i64 sa3, .int .i64 a.off, .int .i64 a.st, .int .i64 8, .slice ya na ka] [.int .i64 b.xs.length, .int .i64 xb0, .int .i64 xb1, .int .i64 xb2, .int .i64 xb3, .int .i64 sb0, .int .i64 sb1, .int .i64 sb2, .int .i64 sb3, .int .i64 b.off, .int .i64 b.st, .int .i64 8, .slice yb nb kb] [.int .i64 o.xs.length, .int .i64 xo0, .int .i64 xo1, .int .i64 xo2, .int .i64 xo3, .int .i64 so0, .int .i64 so1, .int .i64 so2, .int .i64 so3, .int .i64 o.off, .int .i64 o.st, .int .i64 8, .slice yo no ko] W) w9) := HI5.out.keep b9
            have HB9 := hide b9
            have hs59 := b9.size
            have hs57 := HB57.out.size
            have hlt9 := cell_lt hc0
            have HEL := hide (elimT hTS (SmS.refl _) hn4)
            have HC0 := hide hc0
            have HC1 := hide hc1
            clear b9 hTS HEA HI8 b0 r0 r1 f0 f1 pa0 pa1 pa2 pa3 pa4 pa5 pa6 pa7 pa8 pa9 pa10 pa11 pa12 pb0 pb1 pb2 pb3 pb4 pb5 pb6 pb7 pb8 pb9 pb10 pb11 pb12 po0 po1 po2 po3 po4 po5 po6 po7 po8 po9 po10 po11 po12
            have b0 := HI9.out.h
            have r0 := HI9.out.r0
            have r1 := HI9.out.r1
            have f0 := HI9.out.fz 0
            have f1 := HI9.out.fz 1
            have pa0 : w9.cell? ⟨B1, 0, none⟩ = some (.int .i64 a.xs.length) := HI9.out.c1 0 _ rfl
            have pa1 : w9.cell? ⟨B1, 1, none⟩ = some (.int .i64 xa0) := HI9.out.c1 1 _ rfl
            have pa2 : w9.cell? ⟨B1, 2, none⟩ = some (.int .i64 xa1) := HI9.out.c1 2 _ rfl
            have pa3 : w9.cell? ⟨B1, 3, none⟩ = some (.int .i64 xa2) := HI9.out.c1 3 _ rfl
            have pa4 : w9.cell? ⟨B1, 4, none⟩ = some (.int .i64 xa3) := HI9.out.c1 4 _ rfl
            have pa5 : w9.cell? ⟨B1, 5, none⟩ = some (.int .i64 sa0) := HI9.out.c1 5 _ rfl
            have pa6 : w9.cell? ⟨B1, 6, none⟩ = some (.int .i64 sa1) := HI9.out.c1 6 _ rfl
            have pa7 : w9.cell? ⟨B1, 7, none⟩ = some (.int .i64 sa2) := HI9.out.c1 7 _ rfl
            have pa8 : w9.cell? ⟨B1, 8, none⟩ = some (.int .i64 sa3) := HI9.out.c1 8 _ rfl
            have pa9 : w9.cell? ⟨B1, 9, none⟩ = some (.int .i64 a.off) := HI9.out.c1 9 _ rfl
            have pa10 : w9.cell? ⟨B1, 10, none⟩ = some (.int .i64 a.st) := HI9.out.c1 10 _ rfl
            have pa11 : w9.cell? ⟨B1, 11, none⟩ = some (.int .i64 8) := HI9.out.c1 11 _ rfl
            have pa12 : w9.cell? ⟨B1, 12, none⟩ = some (.slice ya na ka) := HI9.out.c1 12 _ rfl
            have pb0 : w9.cell? ⟨B2, 0, none⟩ = some (.int .i64 b.xs.length) := HI9.out.c2 0 _ rfl
            have pb1 : w9.cell? ⟨B2, 1, none⟩ = some (.int .i64 xb0) := HI9.out.c2 1 _ rfl
            have pb2 : w9.cell? ⟨B2, 2, none⟩ = some (.int .i64 xb1) := HI9.out.c2 2 _ rfl
            have pb3 : w9.cell? ⟨B2, 3, none⟩ = some (.int .i64 xb2) := HI9.out.c2 3 _ rfl
            have pb4 : w9.cell? ⟨B2, 4, none⟩ = some (.int .i64 xb3) := HI9.out.c2 4 _ rfl
            have pb5 : w9.cell? ⟨B2, 5, none⟩ = some (.int .i64 sb0) := HI9.out.c2 5 _ rfl
            have pb6 : w9.cell? ⟨B2, 6, none⟩ = some (.int .i64 sb1) := HI9.out.c2 6 _ rfl
            have pb7 : w9.cell? ⟨B2, 7, none⟩ = some (.int .i64 sb2) := HI9.out.c2 7 _ rfl
            have pb8 : w9.cell? ⟨B2, 8, none⟩ = some (.int .i64 sb3) := HI9.out.c2 8 _ rfl
            have pb9 : w9.cell? ⟨B2, 9, none⟩ = some (.int .i64 b.off) := HI9.out.c2 9 _ rfl
            have pb10 : w9.cell? ⟨B2, 10, none⟩ = some (.int .i64 b.st) := HI9.out.c2 10 _ rfl
            have pb11 : w9.cell? ⟨B2, 11, none⟩ = some (.int .i64 8) := HI9.out.c2 11 _ rfl
            have pb12 : w9.cell? ⟨B2, 12, none⟩ = some (.slice yb nb kb) := HI9.out.c2 12 _ rfl
            have po0 : w9.cell? ⟨B3, 0, none⟩ = some (.int .i64 o.xs.length) := HI9.out.c3 0 _ rfl
            have po1 : w9.cell? ⟨B3, 1, none⟩ = some (.int .i64 xo0) := HI9.out.c3 1 _ rfl
            have po2 : w9.cell? ⟨B3, 2, none⟩ = some (.int .i64 xo1) := HI9.out.c3 2 _ rfl
            have po3 : w9.cell? ⟨B3, 3, none⟩ = some (.int .i64 xo2) := HI9.out.c3 3 _ rfl
            have po4 : w9.cell? ⟨B3, 4, none⟩ = some (.int .i64 xo3) := HI9.out.c3 4 _ rfl
            have po5 : w9.cell? ⟨B3, 5, none⟩ = some (.int .i64 so0) := HI9.out.c3 5 _ rfl
            have po6 : w9.cell? ⟨B3, 6, none⟩ = some (.int .i64 so1) := HI9.out.c3 6 _ rfl
            have po7 : w9.cell? ⟨B3, 7, none⟩ = some (.int .i64 so2) := HI9.out.c3 7 _ rfl
            have po8 : w9.cell? ⟨B3, 8, none⟩ = some (.int .i64 so3) := HI9.out.c3 8 _ rfl
            have po9 : w9.cell? ⟨B3, 9, none⟩ = some (.int .i64 o.off) := HI9.out.c3 9 _ rfl
            have po10 : w9.cell? ⟨B3, 10, none⟩ = some (.int .i64 o.st) := HI9.out.c3 10 _ rfl
            have po11 : w9.cell? ⟨B3, 11, none⟩ = some (.int .i64 8) := HI9.out.c3 11 _ rfl
            have po12 : w9.cell? ⟨B3, 12, none⟩ = some (.slice yo no ko) := HI9.out.c3 12 _ rfl
            go_wp2_with fail
            refine HEL.out.mono ?_
            rintro e w10 ⟨hM, hres⟩
            have b10 : Bel w5 w10 := mutP_bel HB9.out hM (fun c hc => hc.1)
            have HI10 : Hid ((fun W : World => IBx w w1 (.slice sa ss.length cap) B1 B2 B3 [.int .i64 a.xs.length, .int .i64 xa0, .int .i64 xa1, .int .i64 xa2, .int .i64 xa3, .int .i64 sa0, .int .i64 sa1, .int .i64 sa2, .int .i64 sa3, .int .i64 a.off, .int .i64 a.st, .int .i64 8, .slice ya na ka] [.int .i64 b.xs.length, .int .i64 xb0, .int .i64 xb1, .int .i64 xb2, .int .i64 xb3, .int .i64 sb0, .int .i64 sb1, .int .i64 sb2, .int .i64 sb3, .int .i64 b.off, .int .i64 b.st, .int .i64 8, .slice yb nb kb] [.int .i64 o.xs.length, .int .i64 xo0, .int .i64 xo1, .int .i64 xo2, .int .i64 xo3, .int .i64 so0, .int .i64 so1, .int .i64 so2, .int .i64 so3, .int .i64 o.off, .int .i64 o.st, .int .i64 8, .slice yo no ko] W) w10) := HI5.out.keep b10
            have hd0 := hM.box (k := w7.heap.size) (fun q => q.2 rfl) hc0
            have hd1 := hM.box (k := w7.heap.size) (fun q => q.2 rfl) hc1
            clear hM HEL hc0 hc1 b0 r0 r1 f0 f1 pa0 pa1 pa2 pa3 pa4 pa5 pa6 pa7 pa8 pa9 pa10 pa11 pa12 pb0 pb1 pb2 pb3 pb4 pb5 pb6 pb7 pb8 pb9 pb10 pb11 pb12 po0 po1 po2 po3 po4 po5 po6 po7 po8 po9 po10 po11 po12
            rcases hres with ⟨hel, rfl⟩ | ⟨s1, t1, rfl, hel, hTS, hSm⟩
            · have hok := hide (h7.out.trans (by rw [HN.out, hel])).symm
              clear hd0 hd1
              have b0 := HI10.out.h
              have r0 := HI10.out.r0
              have r1 := HI10.out.r1
              have f0 := HI10.out.fz 0
              have f1 := HI10.out.fz 1
              go_wp2
              refine bodyPost_ret (v := .agg #[.int .i64 11, .slice none 0 0]) (by simp [results, Tryz.results11, go_sem, r0, r1]) rfl ⟨11, _, [], rfl, ⟨hok.out, .inl ⟨by first | exact hfc | omega, rfl⟩⟩, .inl ⟨rfl, rfl⟩, by (first | exact (HI10.out.bl.setCell (p := ⟨w.heap.size + 1 + 1 + 1 + 1, 0, none⟩) (by show _ ≤ w.heap.size + 1 + 1 + 1 + 1; omega) _).setCell (p := ⟨w.heap.size + 1 + 1 + 1 + 1, 1, none⟩) (by show _ ≤ w.heap.size + 1 + 1 + 1 + 1; omega) _ | exact HI10.out.bl.setCell (p := ⟨w.heap.size + 1 + 1 + 1 + 1, 0, none⟩) (by show _ ≤ w.heap.size + 1 + 1 + 1 + 1; omega) _)⟩
            · have HOK := hide (h7.out.trans (by rw [HN.out, hel]))
              have HELM := hide hel
              have htl : t1.1.length = n := (HSQ.out.elim (Nat.le_refl _) hel).1
              have HUNd := hide (unkT (hTS.drew) hSm htl hn4)
              have b10' := hide b10
              clear hTS hSm htl hel b10
              have b0 := HI10.out.h
              have r0 := HI10.out.r0
              have r1 := HI10.out.r1
              have f0 := HI10.out.fz 0
              have f1 := HI10.out.fz 1
              have pa0 : w10.cell? ⟨B1, 0, none⟩ = some (.int .i64 a.xs.length) := HI10.out.c1 0 _ rfl
              have pa1 : w10.cell? ⟨B1, 1, none⟩ = some (.int .i64 xa0) := HI10.out.c1 1 _ rfl
              have pa2 : w10.cell? ⟨B1, 2, none⟩ = some (.int .i64 xa1) := HI10.out.c1 2 _ rfl
              have pa3 : w10.cell? ⟨B1, 3, none⟩ = some (.int .i64 xa2) := HI10.out.c1 3 _ rfl
              have pa4 : w10.cell? ⟨B1, 4, none⟩ = some (.int .i64 xa3) := HI10.out.c1 4 _ rfl
              have pa5 : w10.cell? ⟨B1, 5, none⟩ = some (.int .i64 sa0) := HI10.out.c1 5 _ rfl
              have pa6 : w10.cell? ⟨B1, 6, none⟩ = some (.int .i64 sa1) := HI10.out.c1 6 _ rfl
              have pa7 : w10.cell? ⟨B1, 7, none⟩ = some (.int .i64 sa2) := HI10.out.c1 7 _ rfl
              have pa8 : w10.cell? ⟨B1, 8, none⟩ = some (.int .i64 sa3) := HI10.out.c1 8 _ rfl
              have pa9 : w10.cell? ⟨B1, 9, none⟩ = some (.int .i64 a.off) := HI10.out.c1 9 _ rfl
              have pa10 : w10.cell? ⟨B1, 10, none⟩ = some (.int .i64 a.st) := HI10.out.c1 10 _ rfl
              have pa11 : w10.cell? ⟨B1, 11, none⟩ = some (.int .i64 8) := HI10.out.c1 11 _ rfl
              have pa12 : w10.cell? ⟨B1, 12, none⟩ = some (.slice ya na ka) := HI10.out.c1 12 _ rfl
              have pb0 : w10.cell? ⟨B2, 0, none⟩ = some (.int .i64 b.xs.length) := HI10.out.c2 0 _ rfl
              have pb1 : w10.cell? ⟨B2, 1, none⟩ = some (.int .i64 xb0) := HI10.out.c2 1 _ rfl
              have pb2 : w10.cell? ⟨B2, 2, none⟩ = some (.int .i64 xb1) := HI10.out.c2 2 _ rfl
              have pb3 : w10.cell? ⟨B2, 3, none⟩ = some (.int .i64 xb2) := HI10.out.c2 3 _ rfl
              have pb4 : w10.cell? ⟨B2, 4, none⟩ = some (.int .i64 xb3) := HI10.out.c2 4 _ rfl
              have pb5 : w10.cell? ⟨B2, 5, none⟩ = some (.int .i64 sb0) := HI10.out.c2 5 _ rfl
              have pb6 : w10.cell? ⟨B2, 6, none⟩ = some (.int .i64 sb1) := HI10.out.c2 6 _ rfl
              have pb7 : w10.cell? ⟨B2, 7, none⟩ = some (.int .i64 sb2) := HI10.out.c2 7 _ rfl
              have pb8 : w10.cell? ⟨B2, 8, none⟩ = some (.int .i64 sb3) := HI10.out.c2 8 _ rfl
              have pb9 : w10.cell? ⟨B2, 9, none⟩ = some (.int .i64 b.off) := HI10.out.c2 9 _ rfl
              have pb10 : w10.cell? ⟨B2, 10, none⟩ = some (.int .i64 b.st) := HI10.out.c2 10 _ rfl
              have pb11 : w10.cell? ⟨B2, 11, none⟩ = some (.int .i64 8) := HI10.out.c2 11 _ rfl
              have pb12 : w10.cell? ⟨B2, 12, none⟩ = some (.slice yb nb kb) := HI10.out.c2 12 _ rfl
              have po0 : w10.cell? ⟨B3, 0, none⟩ = some (.int .i64 o.xs.length) := HI10.out.c3 0 _ rfl
              have po1 : w10.cell? ⟨B3, 1, none⟩ = some (.int .i64 xo0) := HI10.out.c3 1 _ rfl
              have po2 : w10.cell? ⟨B3, 2, none⟩ = some (.int .i64 xo1) := HI10.out.c3 2 _ rfl
              have po3 : w10.cell? ⟨B3, 3, none⟩ = some (.int .i64 xo2) := HI10.out.c3 3 _ rfl
              have po4 : w10.cell? ⟨B3, 4, none⟩ = some (.int .i64 xo3) := HI10.out.c3 4 _ rfl
              have po5 : w10.cell? ⟨B3, 5, none⟩ = some (.int .i64 so0) := HI10.out.c3 5 _ rfl
              have po6 : w10.cell? ⟨B3, 6, none⟩ = some (.int .i64 so1) := HI10.out.c3 6 _ rfl
              have po7 : w10.cell? ⟨B3, 7, none⟩ = some (.int .i64 so2) := HI10.out.c3 7 _ rfl
              have po8 : w10.cell? ⟨B3, 8, none⟩ = some (.int .i64 so3) := HI10.out.c3 8 _ rfl
              have po9 : w10.cell? ⟨B3, 9, none⟩ = some (.int .i64 o.off) := HI10.out.c3 9 _ rfl
              have po10 : w10.cell? ⟨B3, 10, none⟩ = some (.int .i64 o.st) := HI10.out.c3 10 _ rfl
              have po11 : w10.cell? ⟨B3, 11, none⟩ = some (.int .i64 8) := HI10.out.c3 11 _ rfl
              have po12 : w10.cell? ⟨B3, 12, none⟩ = some (.slice yo no ko) := HI10.out.c3 12 _ rfl
              have HS15 : Hid (∀ W, Bel w10 W → (fun w' : World => w'.cell? ⟨B3, 0, none⟩ = some (.int .i64 o.xs.length) ∧ w'.cell? ⟨B3, 1, none⟩ = some (.int .i64 xo0) ∧ w'.cell? ⟨B3, 2, none⟩ = some (.int .i64 xo1) ∧ w'.cell? ⟨B3, 3, none⟩ = some (.int .i64 xo2) ∧ w'.cell? ⟨B3, 4, none⟩ = some (.int .i64 xo3) ∧ w'.cell? ⟨B3, 5, none⟩ = some (.int .i64 so0) ∧ w'.cell? ⟨B3, 6, none⟩ = some (.int .i64 so1) ∧ w'.cell? ⟨B3, 7, none⟩ = some (.int .i64 so2) ∧ w'.cell? ⟨B3, 8, none⟩ = some (.int .i64 so3) ∧ w'.cell? ⟨B3, 9, none⟩ = some (.int .i64 o.off) ∧ w'.cell? ⟨B3, 10, none⟩ = some (.int .i64 o.st) ∧ w'.cell? ⟨B3, 11, none⟩ = some (.int .i64 8) ∧ w'.cell? ⟨B3, 12, none⟩ = some (.slice yo no ko) ∧ w'.cell? ⟨w.heap.size, 0, none⟩ = some (.slice sa ss.length cap) ∧ w'.cell? ⟨w7.heap.size, 0, none⟩ = some vA ∧ w'.cell? ⟨w7.heap.size, 1, none⟩ = some (.slice (some ⟨hB, 0, none⟩) n n)) W) := fun W x => ⟨Bel.box x po0, Bel.box x po1, Bel.box x po2, Bel.box x po3, Bel.box x po4, Bel.box x po5, Bel.box x po6, Bel.box x po7, Bel.box x po8, Bel.box x po9, Bel.box x po10, Bel.box x po11, Bel.box x po12, Bel.box x b0, Bel.box x hd0, Bel.box x hd1⟩
              have HBd : Hid (Bel w10 w10.drew) := (Ext.refl w10).drew.bl
              have SA := hide (HS15.out w10.drew HBd.out)
              go_wp2_with fail
              refine region_u (S := (fun w' : World => w'.cell? ⟨B3, 0, none⟩ = some (.int .i64 o.xs.length) ∧ w'.cell? ⟨B3, 1, none⟩ = some (.int .i64 xo0) ∧ w'.cell? ⟨B3, 2, none⟩ = some (.int .i64 xo1) ∧ w'.cell? ⟨B3, 3, none⟩ = some (.int .i64 xo2) ∧ w'.cell? ⟨B3, 4, none⟩ = some (.int .i64 xo3) ∧ w'.cell? ⟨B3, 5, none⟩ = some (.int .i64 so0) ∧ w'.cell? ⟨B3, 6, none⟩ = some (.int .i64 so1) ∧ w'.cell? ⟨B3, 7, none⟩ = some (.int .i64 so2) ∧ w'.cell? ⟨B3, 8, none⟩ = some (.int .i64 so3) ∧ w'.cell? ⟨B3, 9, none⟩ = some (.int .i64 o.off) ∧ w'.cell? ⟨B3, 10, none⟩ = some (.int .i64 o.st) ∧ w'.cell? ⟨B3, 11, none⟩ = some (.int .i64 8) ∧ w'.cell? ⟨B3, 12, none⟩ = some (.slice yo no ko) ∧ w'.cell? ⟨w.heap.size, 0, none⟩ = some (.slice sa ss.length cap) ∧ w'.cell? ⟨w7.heap.size, 0, none⟩ = some vA ∧ w'.cell? ⟨w7.heap.size, 1, none⟩ = some (.slice (some ⟨hB, 0, none⟩) n n))) (late := [7]) (by kernel_rfl) ?_
              refine wpAnyU_takeD (i := 0) (d := 109) (v := .agg #[.int .i64 o.xs.length, .int .i64 xo0, .int .i64 xo1, .int .i64 xo2, .int .i64 xo3, .int .i64 so0, .int .i64 so1, .int .i64 so2, .int .i64 so3, .int .i64 o.off, .int .i64 o.st, .int .i64 8, .slice yo no ko]) rfl (by rfl) (by kernel_rfl) (by kernel_rfl) (fun _ _ _ h => by cases h.1) _ (by kernel_rfl) (by kernel_rfl) (Or.inl ⟨by kernel_rfl, ?_⟩) SA.out ?_
              · intro w' hSw
                obtain ⟨z0, z1, z2, z3, z4, z5, z6, z7, z8, z9, z10, z11, z12, z13, z14, z15⟩ := hSw
                go_simp
              simp only [Act.put, List.setIfInBounds_toArray, List.set_cons_zero, List.set_cons_succ]
              refine wpAnyU_takeD (i := 1) (d := 110) (v := .agg #[.slice sa ss.length cap]) rfl (by rfl) (by kernel_rfl) (by kernel_rfl) (fun _ _ _ h => by cases h.1) _ (by kernel_rfl) (by kernel_rfl) (Or.inl ⟨by kernel_rfl, ?_⟩) SA.out ?_
              · intro w' hSw
                obtain ⟨z0, z1, z2, z3, z4, z5, z6, z7, z8, z9, z10, z11, z12, z13, z14, z15⟩ := hSw
                go_simp
              simp only [Act.put, List.setIfInBounds_toArray, List.set_cons_zero, List.set_cons_succ]
              refine wpAnyU_takeD (i := 2) (d := 111) (v := .agg #[vA, .slice (some ⟨hB, 0, none⟩) n n]) rfl (by rfl) (by kernel_rfl) (by kernel_rfl) (fun _ _ _ h => by cases h.1) _ (by kernel_rfl) (by kernel_rfl) (Or.inl ⟨by kernel_rfl, ?_⟩) SA.out ?_
              · intro w' hSw
                obtain ⟨z0, z1, z2, z3, z4, z5, z6, z7, z8, z9, z10, z11, z12, z13, z14, z15⟩ := hSw
                go_simp
              simp only [Act.put, List.setIfInBounds_toArray, List.set_cons_zero, List.set_cons_succ]
              refine wpAnyU_one (i := 3) (by kernel_rfl) rfl (fun K hK => ?_)
              go_simp
              refine (HUNd.out).mono ?_
              rintro e w11 ⟨bX, X, rfl, hFX, hXn, hXs, x11⟩
              have b11 : Hid (Bel w10 w11) := Bel.tr HBd.out x11.bl
              have SB := hide (HS15.out w11 b11.out)
              have HFX := hide hFX
              have HXN := hide hXn
              have HXS := hide hXs
              have HXB := hide hFX.b64
              have HFC : Hid (Calls Tryz.prog 45 #[.slice (some ⟨bX, 0, none⟩) n n] w11 fun e w' => ∃ sC cC, e = .returned (.slice sC n cC) ∧ CV w' (.slice sC n cC) (fcells X) ∧ Bel w11 w') := by
                have h1 := floatCells_any hFX (by rw [hXn]; exact hn4)
                rw [hXn] at h1
                refine h1.mono ?_
                rintro e w' ⟨sC, cC, rfl, hO, hB'⟩
                have hlX : (fcells X).length = n := (fcells_len X).trans hXn
                exact ⟨sC, cC, by rw [hlX], ⟨sC, cC, by rw [hlX], hO.imp id fun ⟨g, q1, q2, q3, q4⟩ => ⟨g, 0, q1, q3⟩⟩, hB'⟩
              clear hFX hXn hXs x11
              refine hK.out _ _ (fun _ => SB.out) ?_
              clear hK K
              try simp only [Act.put, List.setIfInBounds_toArray, List.set_cons_zero, List.set_cons_succ]
              refine wpAnyU_one (i := 4) (by kernel_rfl) rfl (fun K hK => ?_)
              go_simp
              refine HFC.out.mono ?_
              rintro e w12 ⟨sC, cC, rfl, hcC, x12⟩
              have b12 : Hid (Bel w10 w12) := Bel.tr b11.out x12
              have SC := hide (HS15.out w12 b12.out)
              have HHW : Hid (Calls Tryz.prog 44 #[.agg #[.int .i64 o.xs.length, .int .i64 xo0, .int .i64 xo1, .int .i64 xo2, .int .i64 xo3, .int .i64 so0, .int .i64 so1, .int .i64 so2, .int .i64 so3, .int .i64 o.off, .int .i64 o.st, .int .i64 8, .slice yo no ko], .agg #[.slice sa ss.length cap], .int .i64 8, .slice sC n cC] w12 fun e w' => ∃ g cb, e = .returned (.agg #[.slice (some ⟨g, 0, none⟩) ss.length ss.length]) ∧ HOwn w' w12.heap.size g cb (putS ss o.st.toNat o.offs X o.offs.length) ∧ Bel w12 w') := by
                have h1 := hcC
                rw [← HXN.out] at h1
                have hst : ((o.st.toNat : Nat) : Int) = o.st := Int.toNat_of_nonneg hsto.1
                have hofl : (offsL o.xs o.sv o.off).length = n := by
                  rw [offs_count hgo.2.1, HOX.out, HN.out]
                  show (1 * (n : Int)).toNat = _
                  rw [Int.one_mul, Int.toNat_natCast]
                have h2 := callsIn_wide.1 (heapWith_in 3 (Nat.le_refl _) o.xs o.sv o.off o.st.toNat (.slice yo no ko) (HH.out.keep (Bel.tr HI10.out.bl b12.out)) hl (by omega) hgo.2.1 hgo.2.2 h1 HXB.out (by rw [hofl, HXN.out]; exact Nat.le_refl _) (by rw [HXN.out]; exact hn4))
                rw [Hxo0.out, Hxo1.out, Hxo2.out, Hxo3.out, Hso0.out, Hso1.out, Hso2.out, Hso3.out, hst, HXN.out] at h2
                exact h2
              clear hcC x12 HFC
              refine hK.out _ _ (fun _ => SC.out) ?_
              clear hK K
              try simp only [Act.put, List.setIfInBounds_toArray, List.set_cons_zero, List.set_cons_succ]
              refine wpAnyU_one (i := 5) (by kernel_rfl) rfl (fun K hK => ?_)
              go_simp
              refine HHW.out.mono ?_
              rintro e w13 ⟨gR, cbR, rfl, hOw, x13⟩
              have b13 : Hid (Bel w10 w13) := Bel.tr b12.out x13
              have SD := hide (HS15.out w13 b13.out)
              have HOW := hide hOw
              have hs12 := b12.out.size
              have HI13 : Hid ((fun W : World => IBx w w1 (.slice sa ss.length cap) B1 B2 B3 [.int .i64 a.xs.length, .int .i64 xa0, .int .i64 xa1, .int .i64 xa2, .int .i64 xa3, .int .i64 sa0, .int .i64 sa1, .int .i64 sa2, .int .i64 sa3, .int .i64 a.off, .int .i64 a.st, .int .i64 8, .slice ya na ka] [.int .i64 b.xs.length, .int .i64 xb0, .int .i64 xb1, .int .i64 xb2, .int .i64 xb3, .int .i64 sb0, .int .i64 sb1, .int .i64 sb2, .int .i64 sb3, .int .i64 b.off, .int .i64 b.st, .int .i64 8, .slice yb nb kb] [.int .i64 o.xs.length, .int .i64 xo0, .int .i64 xo1, .int .i64 xo2, .int .i64 xo3, .int .i64 so0, .int .i64 so1, .int .i64 so2, .int .i64 so3, .int .i64 o.off, .int .i64 o.st, .int .i64 8, .slice yo no ko] W) w13) := HI10.out.keep b13.out
              clear hOw x13 HHW
              refine hK.out _ _ (fun _ => SD.out) ?_
              clear hK K
              try simp only [Act.put, List.setIfInBounds_toArray, List.set_cons_zero, List.set_cons_succ]
              refine wpAnyU_takeD (i := 6) (d := 115) (v := .agg #[.int .i64 0, .slice (some ⟨gR, 0, none⟩) ss.length ss.length]) rfl (by rfl) (by kernel_rfl) (by kernel_rfl) (fun _ _ _ h => by cases h.1) _ (by kernel_rfl) (by kernel_rfl) (Or.inl ⟨by kernel_rfl, ?_⟩) SD.out ?_
              · intro w' hSw
                obtain ⟨z0, z1, z2, z3, z4, z5, z6, z7, z8, z9, z10, z11, z12, z13, z14, z15⟩ := hSw
                go_simp
              simp only [Act.put, List.setIfInBounds_toArray, List.set_cons_zero, List.set_cons_succ]
              clear b0 r0 r1 f0 f1 pa0 pa1 pa2 pa3 pa4 pa5 pa6 pa7 pa8 pa9 pa10 pa11 pa12 pb0 pb1 pb2 pb3 pb4 pb5 pb6 pb7 pb8 pb9 pb10 pb11 pb12 po0 po1 po2 po3 po4 po5 po6 po7 po8 po9 po10 po11 po12
              have b0 := HI13.out.h
              have r0 := HI13.out.r0
              have r1 := HI13.out.r1
              have f0 := HI13.out.fz 0
              have f1 := HI13.out.fz 1
              refine wpAnyU_one (i := 7) (by kernel_rfl) rfl (fun K hK => ?_)
              go_simp
              refine hK.out _ _ (fun h => absurd h (by decide)) ?_
              clear hK K
              try simp only [Act.put, List.setIfInBounds_toArray, List.set_cons_zero, List.set_cons_succ]
              refine wpAnyU_done (by kernel_rfl) ?_ _
              refine ⟨rfl, ?_⟩
              clear SA SB SC SD
              go_wp2
              have hlo := HI10.out.sz
              refine bodyPost_ret (v := .agg #[.int .i64 0, .slice (some ⟨gR, 0, none⟩) ss.length ss.length]) (by simp [results, Tryz.results11, go_sem, r0, r1]) rfl ⟨0, _, _, rfl, ⟨HOK.out.symm, .inr ⟨rfl, hgo, t1, X, by rw [HN.out]; exact HELM.out, by rw [HN.out]; exact HXN.out, by rw [HN.out]; exact HXS.out, HXB.out, rfl⟩⟩, .inr ⟨gR, ss.length, cbR, by rw [putS_len], ?_⟩, ?_⟩
              · have hk : HOwn _ w12.heap.size gR cbR (putS ss o.st.toNat o.offs X o.offs.length) := (HOW.out.keep (w' := w13.setCell ⟨w.heap.size + 1 + 1 + 1 + 1, 0, none⟩ (.int .i64 0)) (fun b hb _ => Below.heap_setCell _ _ _ _ (by show b ≠ w.heap.size + 1 + 1 + 1 + 1; omega)) (by simp [World.setCell])).keep (w' := (w13.setCell ⟨w.heap.size + 1 + 1 + 1 + 1, 0, none⟩ (.int .i64 0)).setCell ⟨w.heap.size + 1 + 1 + 1 + 1, 1, none⟩ (.slice (some ⟨gR, 0, none⟩) ss.length ss.length)) (fun b hb _ => Below.heap_setCell _ _ _ _ (by show b ≠ w.heap.size + 1 + 1 + 1 + 1; omega)) (by simp [World.setCell])
                exact hk.lower (by omega)
              · (first | exact (HI13.out.bl.setCell (p := ⟨w.heap.size + 1 + 1 + 1 + 1, 0, none⟩) (by show _ ≤ w.heap.size + 1 + 1 + 1 + 1; omega) _).setCell (p := ⟨w.heap.size + 1 + 1 + 1 + 1, 1, none⟩) (by show _ ≤ w.heap.size + 1 + 1 + 1 + 1; omega) _ | exact HI13.out.bl.setCell (p := ⟨w.heap.size + 1 + 1 + 1 + 1, 0, none⟩) (by show _ ≤ w.heap.size + 1 + 1 + 1 + 1; omega) _)
          · have h9' : wcv = 9 := by rw [← HWV.out, wrC_cast, if_neg (by rw [decide_eq_true_iff]; exact fun q => hwr ⟨hgo.2.1, q⟩)]
            subst h9'
            rw [if_neg hwr] at h7
            have hok := hide h7.out.symm
            rw [small_0]
            have HI4 := hide (HI3.out.keep (HB4.out.alloc HB4.out.size (.cells #[.int .i64 0, .int .i64 0, .int .i64 9] 2)))
            generalize (w4.alloc (.cells #[.int .i64 0, .int .i64 0, .int .i64 9] 2)) = w5 at HI4 ⊢
            clear SA SB HB4 HS8 b0 r0 r1 f0 f1 pa0 pa1 pa2 pa3 pa4 pa5 pa6 pa7 pa8 pa9 pa10 pa11 pa12 pb0 pb1 pb2 pb3 pb4 pb5 pb6 pb7 pb8 pb9 pb10 pb11 pb12 po0 po1 po2 po3 po4 po5 po6 po7 po8 po9 po10 po11 po12
            have b0 := HI4.out.h
            have r0 := HI4.out.r0
            have r1 := HI4.out.r1
            have f0 := HI4.out.fz 0
            have f1 := HI4.out.fz 1
            go_wp2
            refine bodyPost_ret (v := .agg #[.int .i64 9, .slice none 0 0]) (by simp [results, Tryz.results11, go_sem, r0, r1]) rfl ⟨9, _, [], rfl, ⟨hok.out, .inl ⟨by first | exact hfc | omega, rfl⟩⟩, .inl ⟨rfl, rfl⟩, by (first | exact (HI4.out.bl.setCell (p := ⟨w.heap.size + 1 + 1 + 1 + 1, 0, none⟩) (by show _ ≤ w.heap.size + 1 + 1 + 1 + 1; omega) _).setCell (p := ⟨w.heap.size + 1 + 1 + 1 + 1, 1, none⟩) (by show _ ≤ w.heap.size + 1 + 1 + 1 + 1; omega) _ | exact HI4.out.bl.setCell (p := ⟨w.heap.size + 1 + 1 + 1 + 1, 0, none⟩) (by show _ ≤ w.heap.size + 1 + 1 + 1 + 1; omega) _)⟩
      · have hne : (Do == 8) = false := by rw [beq_eq_false_iff_ne]; exact k3
        have HC4 : Hid (∀ W, Calls Tryz.prog 37 #[.bool true, .int .i64 4] W fun e w' => e = .returned (.int .i64 4) ∧ w' = W) := fun W => codeIf_any true 4 W
        have hok := hide (h4.out (by rw [hdbl.out]; simp [k3])).symm
        go_wp2_with fail
        go_region_held3 (fun w' : World => w'.cell? ⟨B3, 0, none⟩ = some (.int .i64 o.xs.length) ∧ w'.cell? ⟨B3, 1, none⟩ = some (.int .i64 xo0) ∧ w'.cell? ⟨B3, 2, none⟩ = some (.int .i64 xo1) ∧ w'.cell? ⟨B3, 3, none⟩ = some (.int .i64 xo2) ∧ w'.cell? ⟨B3, 4, none⟩ = some (.int .i64 xo3) ∧ w'.cell? ⟨B3, 5, none⟩ = some (.int .i64 so0) ∧ w'.cell? ⟨B3, 6, none⟩ = some (.int .i64 so1) ∧ w'.cell? ⟨B3, 7, none⟩ = some (.int .i64 so2) ∧ w'.cell? ⟨B3, 8, none⟩ = some (.int .i64 so3) ∧ w'.cell? ⟨B3, 9, none⟩ = some (.int .i64 o.off) ∧ w'.cell? ⟨B3, 10, none⟩ = some (.int .i64 o.st) ∧ w'.cell? ⟨B3, 11, none⟩ = some (.int .i64 Do) ∧ w'.cell? ⟨B3, 12, none⟩ = some (.slice yo no ko)) (first | with_reducible exact SA.out | with_reducible exact SB.out | exact SA.out | exact SB.out | exact HS8.out _ (HB4.out.alloc HB4.out.size _)) (first | (go_at_call 37; refine (HC4.out _).mono ?_; rintro e w' ⟨rfl, rfl⟩) | (go_at_call 37; refine (HC6.out _).mono ?_; rintro e w' ⟨rfl, rfl⟩) | (go_at_call 38; refine (HWC.out _).mono ?_; rintro e w4 ⟨rfl, b4⟩; have HB4 := hide (Bel.tr HB3d.out b4); have SB := hide (HS8.out w4 HB4.out); clear b4) | (go_at_call 36; refine (smallest_any (xs := [4, c6, wcv]) (row_new3 _ _ _ _ _) (by simp)).mono ?_; rintro e w' ⟨rfl, rfl⟩))
        rw [small_4 hc6 hw9]
        have HI4 := hide (HI3.out.keep (HB4.out.alloc HB4.out.size (.cells #[.int .i64 4, .int .i64 c6, .int .i64 wcv] 2)))
        generalize (w4.alloc (.cells #[.int .i64 4, .int .i64 c6, .int .i64 wcv] 2)) = w5 at HI4 ⊢
        clear SA SB HB4 HS8 b0 r0 r1 f0 f1 pa0 pa1 pa2 pa3 pa4 pa5 pa6 pa7 pa8 pa9 pa10 pa11 pa12 pb0 pb1 pb2 pb3 pb4 pb5 pb6 pb7 pb8 pb9 pb10 pb11 pb12 po0 po1 po2 po3 po4 po5 po6 po7 po8 po9 po10 po11 po12
        have b0 := HI4.out.h
        have r0 := HI4.out.r0
        have r1 := HI4.out.r1
        have f0 := HI4.out.fz 0
        have f1 := HI4.out.fz 1
        go_wp2
        refine bodyPost_ret (v := .agg #[.int .i64 4, .slice none 0 0]) (by simp [results, Tryz.results11, go_sem, r0, r1]) rfl ⟨4, _, [], rfl, ⟨hok.out, .inl ⟨by first | exact hfc | omega, rfl⟩⟩, .inl ⟨rfl, rfl⟩, by (first | exact (HI4.out.bl.setCell (p := ⟨w.heap.size + 1 + 1 + 1 + 1, 0, none⟩) (by show _ ≤ w.heap.size + 1 + 1 + 1 + 1; omega) _).setCell (p := ⟨w.heap.size + 1 + 1 + 1 + 1, 1, none⟩) (by show _ ≤ w.heap.size + 1 + 1 + 1 + 1; omega) _ | exact HI4.out.bl.setCell (p := ⟨w.heap.size + 1 + 1 + 1 + 1, 0, none⟩) (by show _ ≤ w.heap.size + 1 + 1 + 1 + 1; omega) _)⟩
    · have hne : (Db == 8) = false := by rw [beq_eq_false_iff_ne]; exact k2
      have HC4 : Hid (∀ W, Calls Tryz.prog 37 #[.bool true, .int .i64 4] W fun e w' => e = .returned (.int .i64 4) ∧ w' = W) := fun W => codeIf_any true 4 W
      have hok := hide (h4.out (by rw [hdbl.out]; simp [k2])).symm
      go_wp2_with fail
      go_region_held3 (fun w' : World => w'.cell? ⟨B3, 0, none⟩ = some (.int .i64 o.xs.length) ∧ w'.cell? ⟨B3, 1, none⟩ = some (.int .i64 xo0) ∧ w'.cell? ⟨B3, 2, none⟩ = some (.int .i64 xo1) ∧ w'.cell? ⟨B3, 3, none⟩ = some (.int .i64 xo2) ∧ w'.cell? ⟨B3, 4, none⟩ = some (.int .i64 xo3) ∧ w'.cell? ⟨B3, 5, none⟩ = some (.int .i64 so0) ∧ w'.cell? ⟨B3, 6, none⟩ = some (.int .i64 so1) ∧ w'.cell? ⟨B3, 7, none⟩ = some (.int .i64 so2) ∧ w'.cell? ⟨B3, 8, none⟩ = some (.int .i64 so3) ∧ w'.cell? ⟨B3, 9, none⟩ = some (.int .i64 o.off) ∧ w'.cell? ⟨B3, 10, none⟩ = some (.int .i64 o.st) ∧ w'.cell? ⟨B3, 11, none⟩ = some (.int .i64 Do) ∧ w'.cell? ⟨B3, 12, none⟩ = some (.slice yo no ko)) (first | with_reducible exact SA.out | with_reducible exact SB.out | exact SA.out | exact SB.out | exact HS8.out _ (HB4.out.alloc HB4.out.size _)) (first | (go_at_call 37; refine (HC4.out _).mono ?_; rintro e w' ⟨rfl, rfl⟩) | (go_at_call 37; refine (HC6.out _).mono ?_; rintro e w' ⟨rfl, rfl⟩) | (go_at_call 38; refine (HWC.out _).mono ?_; rintro e w4 ⟨rfl, b4⟩; have HB4 := hide (Bel.tr HB3d.out b4); have SB := hide (HS8.out w4 HB4.out); clear b4) | (go_at_call 36; refine (smallest_any (xs := [4, c6, wcv]) (row_new3 _ _ _ _ _) (by simp)).mono ?_; rintro e w' ⟨rfl, rfl⟩))
      rw [small_4 hc6 hw9]
      have HI4 := hide (HI3.out.keep (HB4.out.alloc HB4.out.size (.cells #[.int .i64 4, .int .i64 c6, .int .i64 wcv] 2)))
      generalize (w4.alloc (.cells #[.int .i64 4, .int .i64 c6, .int .i64 wcv] 2)) = w5 at HI4 ⊢
      clear SA SB HB4 HS8 b0 r0 r1 f0 f1 pa0 pa1 pa2 pa3 pa4 pa5 pa6 pa7 pa8 pa9 pa10 pa11 pa12 pb0 pb1 pb2 pb3 pb4 pb5 pb6 pb7 pb8 pb9 pb10 pb11 pb12 po0 po1 po2 po3 po4 po5 po6 po7 po8 po9 po10 po11 po12
      have b0 := HI4.out.h
      have r0 := HI4.out.r0
      have r1 := HI4.out.r1
      have f0 := HI4.out.fz 0
      have f1 := HI4.out.fz 1
      go_wp2
      refine bodyPost_ret (v := .agg #[.int .i64 4, .slice none 0 0]) (by simp [results, Tryz.results11, go_sem, r0, r1]) rfl ⟨4, _, [], rfl, ⟨hok.out, .inl ⟨by first | exact hfc | omega, rfl⟩⟩, .inl ⟨rfl, rfl⟩, by (first | exact (HI4.out.bl.setCell (p := ⟨w.heap.size + 1 + 1 + 1 + 1, 0, none⟩) (by show _ ≤ w.heap.size + 1 + 1 + 1 + 1; omega) _).setCell (p := ⟨w.heap.size + 1 + 1 + 1 + 1, 1, none⟩) (by show _ ≤ w.heap.size + 1 + 1 + 1 + 1; omega) _ | exact HI4.out.bl.setCell (p := ⟨w.heap.size + 1 + 1 + 1 + 1, 0, none⟩) (by show _ ≤ w.heap.size + 1 + 1 + 1 + 1; omega) _)⟩
  · have hne : (Da == 8) = false := by rw [beq_eq_false_iff_ne]; exact k1
    have HC4 : Hid (∀ W, Calls Tryz.prog 37 #[.bool true, .int .i64 4] W fun e w' => e = .returned (.int .i64 4) ∧ w' = W) := fun W => codeIf_any true 4 W
    have hok := hide (h4.out (by rw [hdbl.out]; simp [k1])).symm
    go_wp2_with fail
    go_region_held3 (fun w' : World => w'.cell? ⟨B3, 0, none⟩ = some (.int .i64 o.xs.length) ∧ w'.cell? ⟨B3, 1, none⟩ = some (.int .i64 xo0) ∧ w'.cell? ⟨B3, 2, none⟩ = some (.int .i64 xo1) ∧ w'.cell? ⟨B3, 3, none⟩ = some (.int .i64 xo2) ∧ w'.cell? ⟨B3, 4, none⟩ = some (.int .i64 xo3) ∧ w'.cell? ⟨B3, 5, none⟩ = some (.int .i64 so0) ∧ w'.cell? ⟨B3, 6, none⟩ = some (.int .i64 so1) ∧ w'.cell? ⟨B3, 7, none⟩ = some (.int .i64 so2) ∧ w'.cell? ⟨B3, 8, none⟩ = some (.int .i64 so3) ∧ w'.cell? ⟨B3, 9, none⟩ = some (.int .i64 o.off) ∧ w'.cell? ⟨B3, 10, none⟩ = some (.int .i64 o.st) ∧ w'.cell? ⟨B3, 11, none⟩ = some (.int .i64 Do) ∧ w'.cell? ⟨B3, 12, none⟩ = some (.slice yo no ko)) (first | with_reducible exact SA.out | with_reducible exact SB.out | exact SA.out | exact SB.out | exact HS8.out _ (HB4.out.alloc HB4.out.size _)) (first | (go_at_call 37; refine (HC4.out _).mono ?_; rintro e w' ⟨rfl, rfl⟩) | (go_at_call 37; refine (HC6.out _).mono ?_; rintro e w' ⟨rfl, rfl⟩) | (go_at_call 38; refine (HWC.out _).mono ?_; rintro e w4 ⟨rfl, b4⟩; have HB4 := hide (Bel.tr HB3d.out b4); have SB := hide (HS8.out w4 HB4.out); clear b4) | (go_at_call 36; refine (smallest_any (xs := [4, c6, wcv]) (row_new3 _ _ _ _ _) (by simp)).mono ?_; rintro e w' ⟨rfl, rfl⟩))
    rw [small_4 hc6 hw9]
    have HI4 := hide (HI3.out.keep (HB4.out.alloc HB4.out.size (.cells #[.int .i64 4, .int .i64 c6, .int .i64 wcv] 2)))
    generalize (w4.alloc (.cells #[.int .i64 4, .int .i64 c6, .int .i64 wcv] 2)) = w5 at HI4 ⊢
    clear SA SB HB4 HS8 b0 r0 r1 f0 f1 pa0 pa1 pa2 pa3 pa4 pa5 pa6 pa7 pa8 pa9 pa10 pa11 pa12 pb0 pb1 pb2 pb3 pb4 pb5 pb6 pb7 pb8 pb9 pb10 pb11 pb12 po0 po1 po2 po3 po4 po5 po6 po7 po8 po9 po10 po11 po12
    have b0 := HI4.out.h
    have r0 := HI4.out.r0
    have r1 := HI4.out.r1
    have f0 := HI4.out.fz 0
    have f1 := HI4.out.fz 1
    go_wp2
    refine bodyPost_ret (v := .agg #[.int .i64 4, .slice none 0 0]) (by simp [results, Tryz.results11, go_sem, r0, r1]) rfl ⟨4, _, [], rfl, ⟨hok.out, .inl ⟨by first | exact hfc | omega, rfl⟩⟩, .inl ⟨rfl, rfl⟩, by (first | exact (HI4.out.bl.setCell (p := ⟨w.heap.size + 1 + 1 + 1 + 1, 0, none⟩) (by show _ ≤ w.heap.size + 1 + 1 + 1 + 1; omega) _).setCell (p := ⟨w.heap.size + 1 + 1 + 1 + 1, 1, none⟩) (by show _ ≤ w.heap.size + 1 + 1 + 1 + 1; omega) _ | exact HI4.out.bl.setCell (p := ⟨w.heap.size + 1 + 1 + 1 + 1, 0, none⟩) (by show _ ≤ w.heap.size + 1 + 1 + 1 + 1; omega) _)⟩
end Go.Proofs.YtfhcpicddegblaaGreat
