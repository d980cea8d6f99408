import Derived.Test.YtbkdfhlbjaiahaaImplVA
import Derived.Test.YtbkdfhlbjaiahaaArrA
import Derived.Test.YtbkdfhlbjaiahaaHSz
import Derived.Test.YtbkdfhlbjaiahaaHCopy
import Derived.Test.YtbkdfhlbjaiahaaHEq
namespace Go.Proofs.Ytbkdfhlbjaiahaa
open Go.ChangeShapes Go.RowKit FL
set_option linter.unusedSimpArgs false
set_option linter.unusedVariables false
/-- The two boxes of the arguments. -/
structure AB (w W : World) (sa : Option Addr) (cap : Nat) (ss : List St) (st : Int) (s1 : Option Addr) (d1 : Nat) (s2 : Option Addr) (d2 : Nat) (xs sv : List Int) (off : Int) : Prop where
  c0 : W.cell? ⟨w.heap.size, 0, none⟩ = some (.slice sa ss.length cap)
  a0 : W.cell? ⟨w.heap.size + 1, 0, none⟩ = some (.int .i64 st)
  a1 : W.cell? ⟨w.heap.size + 1, 1, none⟩ = some (.slice s1 xs.length d1)
  a2 : W.cell? ⟨w.heap.size + 1, 2, none⟩ = some (.slice s2 sv.length d2)
  a3 : W.cell? ⟨w.heap.size + 1, 3, none⟩ = some (.int .i64 off)
  h : SV W (.slice sa ss.length cap) ss
  x : Ints W (.slice s1 xs.length d1) xs
  s : Ints W (.slice s2 sv.length d2) sv
  bl : Bel w W
theorem AB.keep {w W W' : World} {sa : Option Addr} {cap : Nat} {ss : List St} {st : Int} {s1 : Option Addr} {d1 : Nat} {s2 : Option Addr} {d2 : Nat} {xs sv : List Int} {off : Int} (q : AB w W sa cap ss st s1 d1 s2 d2 xs sv off) (y : Bel W W') : AB w W' sa cap ss st s1 d1 s2 d2 xs sv off :=
  ⟨Bel.box y q.c0, Bel.box y q.a0, Bel.box y q.a1, Bel.box y q.a2, Bel.box y q.a3, q.h.keep y, q.x.below y, q.s.below y, Bel.tr q.bl y⟩
theorem AB.start {w : World} {sa : Option Addr} {cap : Nat} {ss : List St} (st : Int) {s1 : Option Addr} {d1 : Nat} {s2 : Option Addr} {d2 : Nat} {xs sv : List Int} (off : Int) (h : SV w (.slice sa ss.length cap) ss) (hx : Ints w (.slice s1 xs.length d1) xs) (hs : Ints w (.slice s2 sv.length d2) sv) :
    AB w ((w.alloc (.cells #[.slice sa ss.length cap] 24)).alloc (.cells #[.int .i64 st, .slice s1 xs.length d1, .slice s2 sv.length d2, .int .i64 off] 37)) sa cap ss st s1 d1 s2 d2 xs sv off := by
  have x0 : Ext w ((w.alloc (.cells #[.slice sa ss.length cap] 24)).alloc (.cells #[.int .i64 st, .slice s1 xs.length d1, .slice s2 sv.length d2, .int .i64 off] 37)) := ((Ext.refl w).alloc _ _).alloc _ _
  have y0 : Ext (w.alloc (.cells #[.slice sa ss.length cap] 24)) ((w.alloc (.cells #[.slice sa ss.length cap] 24)).alloc (.cells #[.int .i64 st, .slice s1 xs.length d1, .slice s2 sv.length d2, .int .i64 off] 37)) := (Ext.refl _).alloc _ _
  have n1 := fun j => new_cell w #[.slice sa ss.length cap] 24 w.heap.size rfl j
  have n2 := fun j => new_cell (w.alloc (.cells #[.slice sa ss.length cap] 24)) #[.int .i64 st, .slice s1 xs.length d1, .slice s2 sv.length d2, .int .i64 off] 37 (w.heap.size + 1) (by simp) j
  exact ⟨y0.box (n1 0), n2 0, n2 1, n2 2, n2 3, h.keep x0.bl, hx.ext x0, hs.ext x0, x0.bl⟩

set_option maxRecDepth 100000 in
set_option maxHeartbeats 4000000 in
theorem lawVA (w : World) (v vS vT : Value) (ss : List St) (st : Int) (xs sv : List Int) (off : Int) (hX : SV w v ss) (hb : SB ss) (hg : SG ss) (hS : Ints w vS xs) (hT : Ints w vT sv) (lx0 : xs.length ≤ 9223372036854775807) (ls0 : sv.length ≤ 9223372036854775807) :
    Calls Try.prog 4 #[.agg #[v], .agg #[.int .i64 st, vS, vT, .int .i64 off]] w fun e w' => LawOk w e w' := by
  obtain ⟨sa, cap, rfl, hx⟩ := hX
  have hX : SV w (.slice sa ss.length cap) ss := ⟨sa, cap, rfl, hx⟩
  obtain ⟨s1, d1, rfl, hs1⟩ := hS
  obtain ⟨s2, d2, rfl, hs2⟩ := hT
  have A0 := hide (AB.start st off hX ⟨s1, d1, rfl, hs1⟩ ⟨s2, d2, rfl, hs2⟩)
  have HS := hide (szHeap_any A0.out.h hb 1048576 (by omega))
  clear hx hX hs1 hs2
  go_enter Try.func4, Try.ntmps4
  go_wp2_with fail
  refine HS.out.mono ?_
  rintro e w1 ⟨⟨r, rfl, hr⟩, x1⟩
  have A1 := hide (A0.out.keep x1.bl)
  clear x1 HS A0
  have c0 := A1.out.c0
  have a0 := A1.out.a0
  have a1 := A1.out.a1
  have a2 := A1.out.a2
  have a3 := A1.out.a3
  rcases hr with hr | ⟨h1, h2, hl⟩
  · go_wp2
    go_ret
    exact ⟨rfl, A1.out.bl⟩
  have hr : ¬ r < 0 := by omega
  have HL := hide hl
  have HG := hide hg
  clear hl hg hb
  go_wp2_with fail
  refine (szArray_any st s1 s2 xs.length d1 sv.length d2 off r ⟨h1, by omega⟩ lx0 ls0 _).mono ?_
  rintro e w2 ⟨⟨r2, rfl, hr2⟩, x2⟩
  have A2 := hide (A1.out.keep x2.bl)
  clear x2 A1 c0 a0 a1 a2 a3
  have c0 := A2.out.c0
  have a0 := A2.out.a0
  have a1 := A2.out.a1
  have a2 := A2.out.a2
  have a3 := A2.out.a3
  rcases hr2 with hr2 | ⟨h3, lx, ls⟩
  · go_wp2
    go_ret
    exact ⟨rfl, A2.out.bl⟩
  have hr2 : ¬ r2 < 0 := by omega
  clear lx0 ls0
  have SA : Hid ((fun w' => w'.cell? ⟨w.heap.size, 0, none⟩ = some (.slice sa ss.length cap) ∧ w'.cell? ⟨w.heap.size + 1, 0, none⟩ = some (.int .i64 st) ∧ w'.cell? ⟨w.heap.size + 1, 1, none⟩ = some (.slice s1 xs.length d1) ∧ w'.cell? ⟨w.heap.size + 1, 2, none⟩ = some (.slice s2 sv.length d2) ∧ w'.cell? ⟨w.heap.size + 1, 3, none⟩ = some (.int .i64 off)) w2.drew) := ⟨c0, a0, a1, a2, a3⟩
  have Ad := hide (A2.out.keep (Ext.refl w2).drew.bl)
  go_wp2_with fail
  go_region_held3 (fun w' => w'.cell? ⟨w.heap.size, 0, none⟩ = some (.slice sa ss.length cap) ∧ w'.cell? ⟨w.heap.size + 1, 0, none⟩ = some (.int .i64 st) ∧ w'.cell? ⟨w.heap.size + 1, 1, none⟩ = some (.slice s1 xs.length d1) ∧ w'.cell? ⟨w.heap.size + 1, 2, none⟩ = some (.slice s2 sv.length d2) ∧ w'.cell? ⟨w.heap.size + 1, 3, none⟩ = some (.int .i64 off)) (first | with_reducible exact SA.out | with_reducible exact SB'.out | with_reducible exact SC'.out | with_reducible exact SD'.out | exact SA.out | exact SB'.out | exact SC'.out | exact SD'.out | fail) (first | (go_at_call 12; refine (sVA_any H4.out HG.out HL.out st X4.out Y4.out off lx ls).mono ?_; rintro e w5 ⟨rfl, x5⟩; have A5 := hide (A4.out.keep x5); have SD' : Hid ((fun w' => w'.cell? ⟨w.heap.size, 0, none⟩ = some (.slice sa ss.length cap) ∧ w'.cell? ⟨w.heap.size + 1, 0, none⟩ = some (.int .i64 st) ∧ w'.cell? ⟨w.heap.size + 1, 1, none⟩ = some (.slice s1 xs.length d1) ∧ w'.cell? ⟨w.heap.size + 1, 2, none⟩ = some (.slice s2 sv.length d2) ∧ w'.cell? ⟨w.heap.size + 1, 3, none⟩ = some (.int .i64 off)) w5) := ⟨A5.out.c0, A5.out.a0, A5.out.a1, A5.out.a2, A5.out.a3⟩; clear x5) | (go_at_call 13; refine (toArray_any st A3.out.x A3.out.s off lx ls).mono ?_; rintro e w4 ⟨b4, c4, rfl, _, _, _, rx, rs, x4⟩; have A4 := hide (A3.out.keep x4.bl); have H4 := hide (H3.out.keep x4.bl); have X4 := hide (rx.ints (n := xs.length) (cap := xs.length) rfl); have Y4 := hide (rs.ints (n := sv.length) (cap := sv.length) rfl); have SC' : Hid ((fun w' => w'.cell? ⟨w.heap.size, 0, none⟩ = some (.slice sa ss.length cap) ∧ w'.cell? ⟨w.heap.size + 1, 0, none⟩ = some (.int .i64 st) ∧ w'.cell? ⟨w.heap.size + 1, 1, none⟩ = some (.slice s1 xs.length d1) ∧ w'.cell? ⟨w.heap.size + 1, 2, none⟩ = some (.slice s2 sv.length d2) ∧ w'.cell? ⟨w.heap.size + 1, 3, none⟩ = some (.int .i64 off)) w4) := ⟨A4.out.c0, A4.out.a0, A4.out.a1, A4.out.a2, A4.out.a3⟩; clear x4 rx rs) | (go_at_call 8; refine (toHeap_any Ad.out.h HL.out).mono ?_; rintro e w3 ⟨g3, rfl, _, rp, x3⟩; have A3 := hide (Ad.out.keep x3.bl); have H3 := hide (rp.sv (n := ss.length) (cap := ss.length) rfl); have SB' : Hid ((fun w' => w'.cell? ⟨w.heap.size, 0, none⟩ = some (.slice sa ss.length cap) ∧ w'.cell? ⟨w.heap.size + 1, 0, none⟩ = some (.int .i64 st) ∧ w'.cell? ⟨w.heap.size + 1, 1, none⟩ = some (.slice s1 xs.length d1) ∧ w'.cell? ⟨w.heap.size + 1, 2, none⟩ = some (.slice s2 sv.length d2) ∧ w'.cell? ⟨w.heap.size + 1, 3, none⟩ = some (.int .i64 off)) w3) := ⟨A3.out.c0, A3.out.a0, A3.out.a1, A3.out.a2, A3.out.a3⟩; clear rp x3) | fail)
  clear SA Ad A2 A3 A4 H3 H4 X4 Y4 c0 a0 a1 a2 a3
  have c0 := A5.out.c0
  have a0 := A5.out.a0
  have a1 := A5.out.a1
  have a2 := A5.out.a2
  have a3 := A5.out.a3
  go_wp2_with fail
  refine (toHeap_any A5.out.h HL.out).mono ?_
  rintro e w6 ⟨g6, rfl, _, rp, x6⟩
  have A6 := hide (A5.out.keep x6.bl)
  have H6 := hide (rp.sv (n := ss.length) (cap := ss.length) rfl)
  clear rp x6 A5 c0 a0 a1 a2 a3
  have xb : Ext w6 (w6.alloc (.cells #[.slice (some ⟨g6, 0, none⟩) ss.length ss.length] 29)) := (Ext.refl w6).alloc _ _
  have nb : (w6.alloc (.cells #[.slice (some ⟨g6, 0, none⟩) ss.length ss.length] 29)).cell? ⟨w6.heap.size, 0, none⟩ = some (.slice (some ⟨g6, 0, none⟩) ss.length ss.length) := new_cell w6 _ 29 _ rfl 0
  have A6b := hide (A6.out.keep xb.bl)
  have H6b := hide (H6.out.keep xb.bl)
  have N6 := hide nb
  clear xb nb A6 H6
  have c0 := A6b.out.c0
  have a0 := A6b.out.a0
  have a1 := A6b.out.a1
  have a2 := A6b.out.a2
  have a3 := A6b.out.a3
  go_wp2_with fail
  generalize w6.alloc (.cells #[.slice (some ⟨g6, 0, none⟩) ss.length ss.length] 29) = W6 at A6b H6b N6 c0 a0 a1 a2 a3 ⊢
  generalize w6.heap.size = B6 at N6 ⊢
  refine (toArray_any st A6b.out.x A6b.out.s off lx ls).mono ?_
  rintro e w7 ⟨b7, c7, rfl, _, _, _, rx, rs, x7⟩
  have A7 := hide (A6b.out.keep x7.bl)
  have H7 := hide (H6b.out.keep x7.bl)
  have N7 := hide (x7.box N6.out)
  have X7 := hide (rx.ints (n := xs.length) (cap := xs.length) rfl)
  have Y7 := hide (rs.ints (n := sv.length) (cap := sv.length) rfl)
  clear x7 rx rs A6b H6b N6 c0 a0 a1 a2 a3
  have xb : Ext w7 (w7.alloc (.cells #[.int .i64 st, .slice (some ⟨b7, 0, none⟩) xs.length xs.length, .slice (some ⟨c7, 0, none⟩) sv.length sv.length, .int .i64 off] 42)) := (Ext.refl w7).alloc _ _
  have nb := fun j => new_cell w7 #[.int .i64 st, .slice (some ⟨b7, 0, none⟩) xs.length xs.length, .slice (some ⟨c7, 0, none⟩) sv.length sv.length, .int .i64 off] 42 w7.heap.size rfl j
  have A7b := hide (A7.out.keep xb.bl)
  have H7b := hide (H7.out.keep xb.bl)
  have X7b := hide (X7.out.below xb.bl)
  have Y7b := hide (Y7.out.below xb.bl)
  have M0 : (w7.alloc (.cells #[.int .i64 st, .slice (some ⟨b7, 0, none⟩) xs.length xs.length, .slice (some ⟨c7, 0, none⟩) sv.length sv.length, .int .i64 off] 42)).cell? ⟨w7.heap.size, 0, none⟩ = some (.int .i64 st) := nb 0
  have M1 : (w7.alloc (.cells #[.int .i64 st, .slice (some ⟨b7, 0, none⟩) xs.length xs.length, .slice (some ⟨c7, 0, none⟩) sv.length sv.length, .int .i64 off] 42)).cell? ⟨w7.heap.size, 1, none⟩ = some (.slice (some ⟨b7, 0, none⟩) xs.length xs.length) := nb 1
  have M2 : (w7.alloc (.cells #[.int .i64 st, .slice (some ⟨b7, 0, none⟩) xs.length xs.length, .slice (some ⟨c7, 0, none⟩) sv.length sv.length, .int .i64 off] 42)).cell? ⟨w7.heap.size, 2, none⟩ = some (.slice (some ⟨c7, 0, none⟩) sv.length sv.length) := nb 2
  have M3 : (w7.alloc (.cells #[.int .i64 st, .slice (some ⟨b7, 0, none⟩) xs.length xs.length, .slice (some ⟨c7, 0, none⟩) sv.length sv.length, .int .i64 off] 42)).cell? ⟨w7.heap.size, 3, none⟩ = some (.int .i64 off) := nb 3
  have n7 := xb.box N7.out
  clear xb nb A7 H7 X7 Y7 N7
  go_wp2_with fail
  generalize w7.alloc (.cells #[.int .i64 st, .slice (some ⟨b7, 0, none⟩) xs.length xs.length, .slice (some ⟨c7, 0, none⟩) sv.length sv.length, .int .i64 off] 42) = W7 at A7b H7b X7b Y7b M0 M1 M2 M3 n7 ⊢
  generalize w7.heap.size = B7 at M0 M1 M2 M3 ⊢
  refine (iVA_any H7b.out HG.out HL.out st X7b.out Y7b.out off lx ls).mono ?_
  rintro e w8 ⟨rfl, x8⟩
  have A8 := hide (A7b.out.keep x8)
  have H8 := hide (H7b.out.keep x8)
  have X8 := hide (X7b.out.below x8)
  have Y8 := hide (Y7b.out.below x8)
  have m0 := Bel.box x8 M0
  have m1 := Bel.box x8 M1
  have m2 := Bel.box x8 M2
  have m3 := Bel.box x8 M3
  have n8 := Bel.box x8 n7
  clear x8 A7b H7b X7b Y7b M0 M1 M2 M3 n7
  generalize (vHeap ss && (dcGoodA ss st xs sv off)) = V
  have c0 := A8.out.c0
  have Ad := hide (A8.out.keep (Ext.refl w8).drew.bl)
  have Hd := hide (H8.out.keep (Ext.refl w8).drew.bl)
  have SA : Hid ((fun w' => w'.cell? ⟨B6, 0, none⟩ = some (.slice (some ⟨g6, 0, none⟩) ss.length ss.length) ∧ w'.cell? ⟨w.heap.size, 0, none⟩ = some (.slice sa ss.length cap)) w8.drew) := ⟨n8, c0⟩
  have XYM : Hid (Ints w8.drew (.slice (some ⟨b7, 0, none⟩) xs.length xs.length) xs ∧ Ints w8.drew (.slice (some ⟨c7, 0, none⟩) sv.length sv.length) sv) := ⟨X8.out.below (Ext.refl w8).drew.bl, Y8.out.below (Ext.refl w8).drew.bl⟩
  have MM : Hid (w8.drew.cell? ⟨B7, 0, none⟩ = some (.int .i64 st) ∧ w8.drew.cell? ⟨B7, 1, none⟩ = some (.slice (some ⟨b7, 0, none⟩) xs.length xs.length) ∧ w8.drew.cell? ⟨B7, 2, none⟩ = some (.slice (some ⟨c7, 0, none⟩) sv.length sv.length) ∧ w8.drew.cell? ⟨B7, 3, none⟩ = some (.int .i64 off)) := ⟨m0, m1, m2, m3⟩
  clear X8 Y8 m0 m1 m2 m3 H8
  go_wp2_with fail
  go_region_held3 (fun w' => w'.cell? ⟨B6, 0, none⟩ = some (.slice (some ⟨g6, 0, none⟩) ss.length ss.length) ∧ w'.cell? ⟨w.heap.size, 0, none⟩ = some (.slice sa ss.length cap)) (first | with_reducible exact SA.out | with_reducible exact SB'.out | with_reducible exact SC'.out | exact SA.out | exact SB'.out | exact SC'.out | fail) (first | (go_at_call 10; refine (eqHeap_same H9.out K9.out HG.out HL.out).mono ?_; rintro e w10 ⟨rfl, x10⟩; have A10 := hide (A9.out.keep x10.bl); have XY10 : Hid (Ints w10 (.slice (some ⟨b7, 0, none⟩) xs.length xs.length) xs ∧ Ints w10 (.slice (some ⟨c7, 0, none⟩) sv.length sv.length) sv) := ⟨XY9.out.1.below x10.bl, XY9.out.2.below x10.bl⟩; have MM10 : Hid (w10.cell? ⟨B7, 0, none⟩ = some (.int .i64 st) ∧ w10.cell? ⟨B7, 1, none⟩ = some (.slice (some ⟨b7, 0, none⟩) xs.length xs.length) ∧ w10.cell? ⟨B7, 2, none⟩ = some (.slice (some ⟨c7, 0, none⟩) sv.length sv.length) ∧ w10.cell? ⟨B7, 3, none⟩ = some (.int .i64 off)) := ⟨x10.box MM9.out.1, x10.box MM9.out.2.1, x10.box MM9.out.2.2.1, x10.box MM9.out.2.2.2⟩; have SC' : Hid ((fun w' => w'.cell? ⟨B6, 0, none⟩ = some (.slice (some ⟨g6, 0, none⟩) ss.length ss.length) ∧ w'.cell? ⟨w.heap.size, 0, none⟩ = some (.slice sa ss.length cap)) w10) := ⟨x10.box SB'.out.1, x10.box SB'.out.2⟩; clear x10) | (go_at_call 8; refine (toHeap_any Ad.out.h HL.out).mono ?_; rintro e w9 ⟨g9, rfl, _, rp, x9⟩; have A9 := hide (Ad.out.keep x9.bl); have H9 := hide (Hd.out.keep x9.bl); have K9 := hide (rp.sv (n := ss.length) (cap := ss.length) rfl); have XY9 : Hid (Ints w9 (.slice (some ⟨b7, 0, none⟩) xs.length xs.length) xs ∧ Ints w9 (.slice (some ⟨c7, 0, none⟩) sv.length sv.length) sv) := ⟨XYM.out.1.below x9.bl, XYM.out.2.below x9.bl⟩; have MM9 : Hid (w9.cell? ⟨B7, 0, none⟩ = some (.int .i64 st) ∧ w9.cell? ⟨B7, 1, none⟩ = some (.slice (some ⟨b7, 0, none⟩) xs.length xs.length) ∧ w9.cell? ⟨B7, 2, none⟩ = some (.slice (some ⟨c7, 0, none⟩) sv.length sv.length) ∧ w9.cell? ⟨B7, 3, none⟩ = some (.int .i64 off)) := ⟨x9.box MM.out.1, x9.box MM.out.2.1, x9.box MM.out.2.2.1, x9.box MM.out.2.2.2⟩; have SB' : Hid ((fun w' => w'.cell? ⟨B6, 0, none⟩ = some (.slice (some ⟨g6, 0, none⟩) ss.length ss.length) ∧ w'.cell? ⟨w.heap.size, 0, none⟩ = some (.slice sa ss.length cap)) w9) := ⟨x9.box SA.out.1, x9.box SA.out.2⟩; clear rp x9) | fail)
  clear SA Ad Hd XYM MM A9 H9 K9 XY9 MM9 SB' n8 c0
  have Ad := hide (A10.out.keep (Ext.refl w10).drew.bl)
  have XYd : Hid (Ints w10.drew (.slice (some ⟨b7, 0, none⟩) xs.length xs.length) xs ∧ Ints w10.drew (.slice (some ⟨c7, 0, none⟩) sv.length sv.length) sv) := ⟨XY10.out.1.below (Ext.refl w10).drew.bl, XY10.out.2.below (Ext.refl w10).drew.bl⟩
  have SA : Hid ((fun w' => w'.cell? ⟨B7, 0, none⟩ = some (.int .i64 st) ∧ w'.cell? ⟨B7, 1, none⟩ = some (.slice (some ⟨b7, 0, none⟩) xs.length xs.length) ∧ w'.cell? ⟨B7, 2, none⟩ = some (.slice (some ⟨c7, 0, none⟩) sv.length sv.length) ∧ w'.cell? ⟨B7, 3, none⟩ = some (.int .i64 off) ∧ w'.cell? ⟨w.heap.size + 1, 0, none⟩ = some (.int .i64 st) ∧ w'.cell? ⟨w.heap.size + 1, 1, none⟩ = some (.slice s1 xs.length d1) ∧ w'.cell? ⟨w.heap.size + 1, 2, none⟩ = some (.slice s2 sv.length d2) ∧ w'.cell? ⟨w.heap.size + 1, 3, none⟩ = some (.int .i64 off)) w10.drew) := ⟨MM10.out.1, MM10.out.2.1, MM10.out.2.2.1, MM10.out.2.2.2, A10.out.a0, A10.out.a1, A10.out.a2, A10.out.a3⟩
  clear SC'
  go_wp2_with fail
  go_region_held3 (fun w' => w'.cell? ⟨B7, 0, none⟩ = some (.int .i64 st) ∧ w'.cell? ⟨B7, 1, none⟩ = some (.slice (some ⟨b7, 0, none⟩) xs.length xs.length) ∧ w'.cell? ⟨B7, 2, none⟩ = some (.slice (some ⟨c7, 0, none⟩) sv.length sv.length) ∧ w'.cell? ⟨B7, 3, none⟩ = some (.int .i64 off) ∧ w'.cell? ⟨w.heap.size + 1, 0, none⟩ = some (.int .i64 st) ∧ w'.cell? ⟨w.heap.size + 1, 1, none⟩ = some (.slice s1 xs.length d1) ∧ w'.cell? ⟨w.heap.size + 1, 2, none⟩ = some (.slice s2 sv.length d2) ∧ w'.cell? ⟨w.heap.size + 1, 3, none⟩ = some (.int .i64 off)) (first | with_reducible exact SA.out | with_reducible exact SB'.out | with_reducible exact SC'.out | exact SA.out | exact SB'.out | exact SC'.out | fail) (first | (go_at_call 15; refine (eqArray_true st off XY11.out.1 XY11.out.2 P11.out Q11.out lx ls).mono ?_; rintro e w12 ⟨rfl, x12⟩; have A12 := hide (A11.out.keep x12.bl); have SC' : Hid ((fun w' => w'.cell? ⟨B7, 0, none⟩ = some (.int .i64 st) ∧ w'.cell? ⟨B7, 1, none⟩ = some (.slice (some ⟨b7, 0, none⟩) xs.length xs.length) ∧ w'.cell? ⟨B7, 2, none⟩ = some (.slice (some ⟨c7, 0, none⟩) sv.length sv.length) ∧ w'.cell? ⟨B7, 3, none⟩ = some (.int .i64 off) ∧ w'.cell? ⟨w.heap.size + 1, 0, none⟩ = some (.int .i64 st) ∧ w'.cell? ⟨w.heap.size + 1, 1, none⟩ = some (.slice s1 xs.length d1) ∧ w'.cell? ⟨w.heap.size + 1, 2, none⟩ = some (.slice s2 sv.length d2) ∧ w'.cell? ⟨w.heap.size + 1, 3, none⟩ = some (.int .i64 off)) w12) := ⟨x12.box SB'.out.1, x12.box SB'.out.2.1, x12.box SB'.out.2.2.1, x12.box SB'.out.2.2.2.1, A12.out.a0, A12.out.a1, A12.out.a2, A12.out.a3⟩; clear x12) | (go_at_call 13; refine (toArray_any st Ad.out.x Ad.out.s off lx ls).mono ?_; rintro e w11 ⟨b11, c11, rfl, _, _, _, rx, rs, x11⟩; have A11 := hide (Ad.out.keep x11.bl); have P11 := hide (rx.ints (n := xs.length) (cap := xs.length) rfl); have Q11 := hide (rs.ints (n := sv.length) (cap := sv.length) rfl); have XY11 : Hid (Ints w11 (.slice (some ⟨b7, 0, none⟩) xs.length xs.length) xs ∧ Ints w11 (.slice (some ⟨c7, 0, none⟩) sv.length sv.length) sv) := ⟨XYd.out.1.below x11.bl, XYd.out.2.below x11.bl⟩; have SB' : Hid ((fun w' => w'.cell? ⟨B7, 0, none⟩ = some (.int .i64 st) ∧ w'.cell? ⟨B7, 1, none⟩ = some (.slice (some ⟨b7, 0, none⟩) xs.length xs.length) ∧ w'.cell? ⟨B7, 2, none⟩ = some (.slice (some ⟨c7, 0, none⟩) sv.length sv.length) ∧ w'.cell? ⟨B7, 3, none⟩ = some (.int .i64 off) ∧ w'.cell? ⟨w.heap.size + 1, 0, none⟩ = some (.int .i64 st) ∧ w'.cell? ⟨w.heap.size + 1, 1, none⟩ = some (.slice s1 xs.length d1) ∧ w'.cell? ⟨w.heap.size + 1, 2, none⟩ = some (.slice s2 sv.length d2) ∧ w'.cell? ⟨w.heap.size + 1, 3, none⟩ = some (.int .i64 off)) w11) := ⟨x11.box SA.out.1, x11.box SA.out.2.1, x11.box SA.out.2.2.1, x11.box SA.out.2.2.2.1, A11.out.a0, A11.out.a1, A11.out.a2, A11.out.a3⟩; clear rx rs x11) | fail)
  go_wp2
  go_ret
  exact ⟨rfl, A12.out.bl⟩
end Go.Proofs.Ytbkdfhlbjaiahaa
