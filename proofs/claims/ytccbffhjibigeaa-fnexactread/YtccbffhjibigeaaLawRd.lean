import Derived.Test.YtccbffhjibigeaaMarkN
namespace Go.Proofs.Ytccbffhjibigeaa
open Go.ChangeShapes Go.RowKit FL
set_option linter.unusedSimpArgs false
set_option linter.unusedVariables false

set_option maxRecDepth 100000 in
set_option maxHeartbeats 4000000 in
theorem lawRd (w : World) (v vS vT : Value) (ss : List St) (st : Int) (xs sv : List Int) (off : Int) (hX : SV w v ss) (hb : SB ss) (hg : SG ss) (hS : Ints w vS xs) (hT : Ints w vT sv) (lx0 : xs.length ≤ 9223372036854775807) (ls0 : sv.length ≤ 9223372036854775807) :
    Calls Try.prog 5 #[.agg #[v], .agg #[.int .i64 st, vS, vT, .int .i64 off]] w fun e w' => LawOk w e w' := by
  obtain ⟨sa, cap, rfl, hx⟩ := hX
  have hX : SV w (.slice sa ss.length cap) ss := ⟨sa, cap, rfl, hx⟩
  obtain ⟨s1, d1, rfl, hs1⟩ := hS
  obtain ⟨s2, d2, rfl, hs2⟩ := hT
  have A0 := hide (AB.start st off hX ⟨s1, d1, rfl, hs1⟩ ⟨s2, d2, rfl, hs2⟩)
  have HS := hide (szHeap_any A0.out.h hb 1048576 (by omega))
  clear hx hX hs1 hs2
  go_enter Try.func5, Try.ntmps5
  go_wp2_with fail
  refine HS.out.mono ?_
  rintro e w1 ⟨⟨r, rfl, hr⟩, x1⟩
  have A1 := hide (A0.out.keep x1.bl)
  clear x1 HS A0
  have c0 := A1.out.c0
  have a0 := A1.out.a0
  have a1 := A1.out.a1
  have a2 := A1.out.a2
  have a3 := A1.out.a3
  rcases hr with hr | ⟨h1, h2, hl⟩
  · go_wp2
    go_ret
    exact ⟨rfl, A1.out.bl⟩
  have hr : ¬ r < 0 := by omega
  have HL := hide hl
  have HG := hide hg
  clear hl hg hb
  go_wp2_with fail
  refine (szArray_any st s1 s2 xs.length d1 sv.length d2 off r ⟨h1, by omega⟩ lx0 ls0 _).mono ?_
  rintro e w2 ⟨⟨r2, rfl, hr2⟩, x2⟩
  have A2 := hide (A1.out.keep x2.bl)
  clear x2 A1 c0 a0 a1 a2 a3
  have c0 := A2.out.c0
  have a0 := A2.out.a0
  have a1 := A2.out.a1
  have a2 := A2.out.a2
  have a3 := A2.out.a3
  rcases hr2 with hr2 | ⟨h3, lx, ls⟩
  · go_wp2
    go_ret
    exact ⟨rfl, A2.out.bl⟩
  have hr2 : ¬ r2 < 0 := by omega
  clear lx0 ls0
  have SA : Hid ((fun w' => w'.cell? ⟨w.heap.size, 0, none⟩ = some (.slice sa ss.length cap) ∧ w'.cell? ⟨w.heap.size + 1, 0, none⟩ = some (.int .i64 st) ∧ w'.cell? ⟨w.heap.size + 1, 1, none⟩ = some (.slice s1 xs.length d1) ∧ w'.cell? ⟨w.heap.size + 1, 2, none⟩ = some (.slice s2 sv.length d2) ∧ w'.cell? ⟨w.heap.size + 1, 3, none⟩ = some (.int .i64 off)) w2.drew) := ⟨c0, a0, a1, a2, a3⟩
  have Ad := hide (A2.out.keep (Ext.refl w2).drew.bl)
  go_wp2_with fail
  go_region_held3 (fun w' => w'.cell? ⟨w.heap.size, 0, none⟩ = some (.slice sa ss.length cap) ∧ w'.cell? ⟨w.heap.size + 1, 0, none⟩ = some (.int .i64 st) ∧ w'.cell? ⟨w.heap.size + 1, 1, none⟩ = some (.slice s1 xs.length d1) ∧ w'.cell? ⟨w.heap.size + 1, 2, none⟩ = some (.slice s2 sv.length d2) ∧ w'.cell? ⟨w.heap.size + 1, 3, none⟩ = some (.int .i64 off)) (first | with_reducible exact SA.out | with_reducible exact SB'.out | with_reducible exact SC'.out | with_reducible exact SD'.out | exact SA.out | exact SB'.out | exact SC'.out | exact SD'.out | fail) (first | (go_at_call 16; refine (sRd_any H4.out HG.out HL.out st X4.out Y4.out off lx ls).mono ?_; intro e w5 hok5; obtain ⟨z5, q5, rfl, ho5, x5⟩ := hok5; have C5 := hide (ho5.cv (cap := q5)); have A5 := hide (A4.out.keep x5); have SD' : Hid ((fun w' => w'.cell? ⟨w.heap.size, 0, none⟩ = some (.slice sa ss.length cap) ∧ w'.cell? ⟨w.heap.size + 1, 0, none⟩ = some (.int .i64 st) ∧ w'.cell? ⟨w.heap.size + 1, 1, none⟩ = some (.slice s1 xs.length d1) ∧ w'.cell? ⟨w.heap.size + 1, 2, none⟩ = some (.slice s2 sv.length d2) ∧ w'.cell? ⟨w.heap.size + 1, 3, none⟩ = some (.int .i64 off)) w5) := ⟨A5.out.c0, A5.out.a0, A5.out.a1, A5.out.a2, A5.out.a3⟩; clear x5 ho5) | (go_at_call 13; refine (toArray_any st A3.out.x A3.out.s off lx ls).mono ?_; rintro e w4 ⟨b4, c4, rfl, _, _, _, rx, rs, x4⟩; have A4 := hide (A3.out.keep x4.bl); have H4 := hide (H3.out.keep x4.bl); have X4 := hide (rx.ints (n := xs.length) (cap := xs.length) rfl); have Y4 := hide (rs.ints (n := sv.length) (cap := sv.length) rfl); have SC' : Hid ((fun w' => w'.cell? ⟨w.heap.size, 0, none⟩ = some (.slice sa ss.length cap) ∧ w'.cell? ⟨w.heap.size + 1, 0, none⟩ = some (.int .i64 st) ∧ w'.cell? ⟨w.heap.size + 1, 1, none⟩ = some (.slice s1 xs.length d1) ∧ w'.cell? ⟨w.heap.size + 1, 2, none⟩ = some (.slice s2 sv.length d2) ∧ w'.cell? ⟨w.heap.size + 1, 3, none⟩ = some (.int .i64 off)) w4) := ⟨A4.out.c0, A4.out.a0, A4.out.a1, A4.out.a2, A4.out.a3⟩; clear x4 rx rs) | (go_at_call 8; refine (toHeap_any Ad.out.h HL.out).mono ?_; rintro e w3 ⟨g3, rfl, _, rp, x3⟩; have A3 := hide (Ad.out.keep x3.bl); have H3 := hide (rp.sv (n := ss.length) (cap := ss.length) rfl); have SB' : Hid ((fun w' => w'.cell? ⟨w.heap.size, 0, none⟩ = some (.slice sa ss.length cap) ∧ w'.cell? ⟨w.heap.size + 1, 0, none⟩ = some (.int .i64 st) ∧ w'.cell? ⟨w.heap.size + 1, 1, none⟩ = some (.slice s1 xs.length d1) ∧ w'.cell? ⟨w.heap.size + 1, 2, none⟩ = some (.slice s2 sv.length d2) ∧ w'.cell? ⟨w.heap.size + 1, 3, none⟩ = some (.int .i64 off)) w3) := ⟨A3.out.c0, A3.out.a0, A3.out.a1, A3.out.a2, A3.out.a3⟩; clear rp x3) | fail)
  clear SA Ad A2 A3 A4 H3 H4 X4 Y4 c0 a0 a1 a2 a3 SB' SC' SD'
  have c0 := A5.out.c0
  have a0 := A5.out.a0
  have a1 := A5.out.a1
  have a2 := A5.out.a2
  have a3 := A5.out.a3
  go_wp2_with fail
  refine (toHeap_any A5.out.h HL.out).mono ?_
  rintro e w6 ⟨g6, rfl, hg6, rp, x6⟩
  have A6 := hide (A5.out.keep x6.bl)
  have H6 := hide (rp.sv (n := ss.length) (cap := ss.length) rfl)
  have W6r := hide rp.wrow
  have F6 : Hid (∀ c o, g6 ≤ c → c < w6.heap.size → w6.frozen? ⟨c, o, none⟩ = false) := fun c o hc _ => x6.unfrozen (by omega) o
  have B56 := hide x6.bl
  have hg6s : ss = [] ∨ g6 < w6.heap.size := by
    by_cases e : ss = []
    · exact Or.inl e
    · exact Or.inr (cell_lt (rp 0 (List.length_pos_iff.2 e)).1)
  have Hg6 := hide hg6
  have Hg6s := hide hg6s
  clear rp x6 c0 a0 a1 a2 a3 hg6 hg6s
  have xb : Ext w6 (w6.alloc (.cells #[.slice (some ⟨g6, 0, none⟩) ss.length ss.length] 29)) := (Ext.refl w6).alloc _ _
  have nb : (w6.alloc (.cells #[.slice (some ⟨g6, 0, none⟩) ss.length ss.length] 29)).cell? ⟨w6.heap.size, 0, none⟩ = some (.slice (some ⟨g6, 0, none⟩) ss.length ss.length) := new_cell w6 _ 29 _ rfl 0
  have A6b := hide (A6.out.keep xb.bl)
  have H6b := hide (H6.out.keep xb.bl)
  have N6 := hide nb
  have B66 := hide xb.bl
  have hsW6 : (w6.alloc (.cells #[.slice (some ⟨g6, 0, none⟩) ss.length ss.length] 29)).heap.size = w6.heap.size + 1 := by simp
  have HsW6 := hide hsW6
  clear xb nb A6 H6 hsW6
  have c0 := A6b.out.c0
  have a0 := A6b.out.a0
  have a1 := A6b.out.a1
  have a2 := A6b.out.a2
  have a3 := A6b.out.a3
  go_wp2_with fail
  generalize w6.alloc (.cells #[.slice (some ⟨g6, 0, none⟩) ss.length ss.length] 29) = W6 at A6b H6b N6 c0 a0 a1 a2 a3 B66 HsW6 ⊢
  generalize hB6 : w6.heap.size = B6 at N6 HsW6 ⊢
  have HB6 := hide hB6
  clear hB6
  refine (toArray_any st A6b.out.x A6b.out.s off lx ls).mono ?_
  rintro e w7 ⟨b7, c7, rfl, hb7, hbc7, hc7, rx, rs, x7⟩
  have R7 := hide rx
  have S7 := hide rs
  have F7 : Hid (∀ d o, b7 ≤ d → d ≤ c7 → w7.frozen? ⟨d, o, none⟩ = false) := fun d o hd _ => x7.unfrozen (by omega) o
  have B67 := hide (Bel.tr B66.out x7.bl)
  have Hb7 : Hid (W6.heap.size ≤ b7 ∧ b7 < c7 ∧ c7 < w7.heap.size) := ⟨hb7, hbc7, hc7⟩
  clear hb7 hbc7 hc7
  have A7 := hide (A6b.out.keep x7.bl)
  have H7 := hide (H6b.out.keep x7.bl)
  have N7 := hide (x7.box N6.out)
  have X7 := hide (rx.ints (n := xs.length) (cap := xs.length) rfl)
  have Y7 := hide (rs.ints (n := sv.length) (cap := sv.length) rfl)
  clear x7 rx rs A6b H6b N6 c0 a0 a1 a2 a3
  have xb : Ext w7 (w7.alloc (.cells #[.int .i64 st, .slice (some ⟨b7, 0, none⟩) xs.length xs.length, .slice (some ⟨c7, 0, none⟩) sv.length sv.length, .int .i64 off] 42)) := (Ext.refl w7).alloc _ _
  have nb := fun j => new_cell w7 #[.int .i64 st, .slice (some ⟨b7, 0, none⟩) xs.length xs.length, .slice (some ⟨c7, 0, none⟩) sv.length sv.length, .int .i64 off] 42 w7.heap.size rfl j
  have A7b := hide (A7.out.keep xb.bl)
  have H7b := hide (H7.out.keep xb.bl)
  have X7b := hide (X7.out.below xb.bl)
  have Y7b := hide (Y7.out.below xb.bl)
  have M0 : (w7.alloc (.cells #[.int .i64 st, .slice (some ⟨b7, 0, none⟩) xs.length xs.length, .slice (some ⟨c7, 0, none⟩) sv.length sv.length, .int .i64 off] 42)).cell? ⟨w7.heap.size, 0, none⟩ = some (.int .i64 st) := nb 0
  have M1 : (w7.alloc (.cells #[.int .i64 st, .slice (some ⟨b7, 0, none⟩) xs.length xs.length, .slice (some ⟨c7, 0, none⟩) sv.length sv.length, .int .i64 off] 42)).cell? ⟨w7.heap.size, 1, none⟩ = some (.slice (some ⟨b7, 0, none⟩) xs.length xs.length) := nb 1
  have M2 : (w7.alloc (.cells #[.int .i64 st, .slice (some ⟨b7, 0, none⟩) xs.length xs.length, .slice (some ⟨c7, 0, none⟩) sv.length sv.length, .int .i64 off] 42)).cell? ⟨w7.heap.size, 2, none⟩ = some (.slice (some ⟨c7, 0, none⟩) sv.length sv.length) := nb 2
  have M3 : (w7.alloc (.cells #[.int .i64 st, .slice (some ⟨b7, 0, none⟩) xs.length xs.length, .slice (some ⟨c7, 0, none⟩) sv.length sv.length, .int .i64 off] 42)).cell? ⟨w7.heap.size, 3, none⟩ = some (.int .i64 off) := nb 3
  have n7 := xb.box N7.out
  have B77 := hide xb.bl
  have HsW7 : Hid ((w7.alloc (.cells #[.int .i64 st, .slice (some ⟨b7, 0, none⟩) xs.length xs.length, .slice (some ⟨c7, 0, none⟩) sv.length sv.length, .int .i64 off] 42)).heap.size = w7.heap.size + 1) := by show (World.alloc _ _).heap.size = _; simp
  clear xb nb A7 H7 X7 Y7 N7
  go_wp2_with fail
  generalize w7.alloc (.cells #[.int .i64 st, .slice (some ⟨b7, 0, none⟩) xs.length xs.length, .slice (some ⟨c7, 0, none⟩) sv.length sv.length, .int .i64 off] 42) = W7 at A7b H7b X7b Y7b M0 M1 M2 M3 n7 B77 HsW7 ⊢
  generalize hB7 : w7.heap.size = B7 at M0 M1 M2 M3 HsW7 Hb7 ⊢
  have HB7 := hide hB7
  clear hB7
  refine (iRd_any H7b.out HG.out HL.out st X7b.out Y7b.out off lx ls).mono ?_
  intro e w7r hok8
  obtain ⟨z8, q8, rfl, ho8, x7r⟩ := hok8
  have B5W7 := hide (Bel.tr (Bel.tr B56.out B67.out) B77.out)
  have Lg := hide (readA_good HG.out st xs sv off)
  have Ll := readA_len ss st xs sv off
  have G7 := hide ho8
  have C7 := hide (C5.out.keep (Bel.tr B5W7.out x7r))
  have X7r := hide x7r
  clear ho8 x7r
  generalize hLL : readA ss st xs sv off = LL at Lg Ll G7 C7 C5 ⊢
  have HLL := hide hLL
  clear hLL
  go_wp2_with fail
  refine (eqCells_same (G7.out.cv (cap := q8)) C7.out Lg.out Ll).mono ?_
  rintro e w8 ⟨rfl, xe⟩
  have x8 : Bel W7 w8 := Bel.tr X7r.out xe.bl
  have G8 := hide (G7.out.keep xe.bl)
  have B78 := hide x8
  clear xe G7 C7 X7r
  have A8 := hide (A7b.out.keep x8)
  have H8 := hide (H7b.out.keep x8)
  have X8 := hide (X7b.out.below x8)
  have Y8 := hide (Y7b.out.below x8)
  have m0 := Bel.box x8 M0
  have m1 := Bel.box x8 M1
  have m2 := Bel.box x8 M2
  have m3 := Bel.box x8 M3
  have n8 := Bel.box x8 n7
  clear x8 A7b H7b X7b Y7b M0 M1 M2 M3 n7
  have c0 := A8.out.c0
  have Ad := hide (A8.out.keep (Ext.refl w8).drew.bl)
  have Hd := hide (H8.out.keep (Ext.refl w8).drew.bl)
  have SA : Hid ((fun w' => w'.cell? ⟨B6, 0, none⟩ = some (.slice (some ⟨g6, 0, none⟩) ss.length ss.length) ∧ w'.cell? ⟨w.heap.size, 0, none⟩ = some (.slice sa ss.length cap)) w8.drew) := ⟨n8, c0⟩
  have XYM : Hid (Ints w8.drew (.slice (some ⟨b7, 0, none⟩) xs.length xs.length) xs ∧ Ints w8.drew (.slice (some ⟨c7, 0, none⟩) sv.length sv.length) sv) := ⟨X8.out.below (Ext.refl w8).drew.bl, Y8.out.below (Ext.refl w8).drew.bl⟩
  have MM : Hid (w8.drew.cell? ⟨B7, 0, none⟩ = some (.int .i64 st) ∧ w8.drew.cell? ⟨B7, 1, none⟩ = some (.slice (some ⟨b7, 0, none⟩) xs.length xs.length) ∧ w8.drew.cell? ⟨B7, 2, none⟩ = some (.slice (some ⟨c7, 0, none⟩) sv.length sv.length) ∧ w8.drew.cell? ⟨B7, 3, none⟩ = some (.int .i64 off)) := ⟨m0, m1, m2, m3⟩
  have N8 := hide n8
  clear X8 Y8 m0 m1 m2 m3 H8
  go_wp2_with fail
  go_region_held3 (fun w' => w'.cell? ⟨B6, 0, none⟩ = some (.slice (some ⟨g6, 0, none⟩) ss.length ss.length) ∧ w'.cell? ⟨w.heap.size, 0, none⟩ = some (.slice sa ss.length cap)) (first | with_reducible exact SA.out | with_reducible exact SB'.out | with_reducible exact SC'.out | exact SA.out | exact SB'.out | exact SC'.out | fail) (first | (go_at_call 10; refine (eqHeap_same H9.out K9.out HG.out HL.out).mono ?_; rintro e w10 ⟨rfl, x10⟩; have E10 := hide (Bel.tr E9.out x10.bl); have A10 := hide (A9.out.keep x10.bl); have XY10 : Hid (Ints w10 (.slice (some ⟨b7, 0, none⟩) xs.length xs.length) xs ∧ Ints w10 (.slice (some ⟨c7, 0, none⟩) sv.length sv.length) sv) := ⟨XY9.out.1.below x10.bl, XY9.out.2.below x10.bl⟩; have MM10 : Hid (w10.cell? ⟨B7, 0, none⟩ = some (.int .i64 st) ∧ w10.cell? ⟨B7, 1, none⟩ = some (.slice (some ⟨b7, 0, none⟩) xs.length xs.length) ∧ w10.cell? ⟨B7, 2, none⟩ = some (.slice (some ⟨c7, 0, none⟩) sv.length sv.length) ∧ w10.cell? ⟨B7, 3, none⟩ = some (.int .i64 off)) := ⟨x10.box MM9.out.1, x10.box MM9.out.2.1, x10.box MM9.out.2.2.1, x10.box MM9.out.2.2.2⟩; have SC' : Hid ((fun w' => w'.cell? ⟨B6, 0, none⟩ = some (.slice (some ⟨g6, 0, none⟩) ss.length ss.length) ∧ w'.cell? ⟨w.heap.size, 0, none⟩ = some (.slice sa ss.length cap)) w10) := ⟨x10.box SB'.out.1, x10.box SB'.out.2⟩; clear x10) | (go_at_call 8; refine (toHeap_any Ad.out.h HL.out).mono ?_; rintro e w9 ⟨g9, rfl, _, rp, x9⟩; have E9 := hide (Bel.tr (Ext.refl w8).drew.bl x9.bl); have A9 := hide (Ad.out.keep x9.bl); have H9 := hide (Hd.out.keep x9.bl); have K9 := hide (rp.sv (n := ss.length) (cap := ss.length) rfl); have XY9 : Hid (Ints w9 (.slice (some ⟨b7, 0, none⟩) xs.length xs.length) xs ∧ Ints w9 (.slice (some ⟨c7, 0, none⟩) sv.length sv.length) sv) := ⟨XYM.out.1.below x9.bl, XYM.out.2.below x9.bl⟩; have MM9 : Hid (w9.cell? ⟨B7, 0, none⟩ = some (.int .i64 st) ∧ w9.cell? ⟨B7, 1, none⟩ = some (.slice (some ⟨b7, 0, none⟩) xs.length xs.length) ∧ w9.cell? ⟨B7, 2, none⟩ = some (.slice (some ⟨c7, 0, none⟩) sv.length sv.length) ∧ w9.cell? ⟨B7, 3, none⟩ = some (.int .i64 off)) := ⟨x9.box MM.out.1, x9.box MM.out.2.1, x9.box MM.out.2.2.1, x9.box MM.out.2.2.2⟩; have SB' : Hid ((fun w' => w'.cell? ⟨B6, 0, none⟩ = some (.slice (some ⟨g6, 0, none⟩) ss.length ss.length) ∧ w'.cell? ⟨w.heap.size, 0, none⟩ = some (.slice sa ss.length cap)) w9) := ⟨x9.box SA.out.1, x9.box SA.out.2⟩; clear rp x9) | fail)
  have M8 : Hid (w8.cell? ⟨B7, 0, none⟩ = some (.int .i64 st) ∧ w8.cell? ⟨B7, 1, none⟩ = some (.slice (some ⟨b7, 0, none⟩) xs.length xs.length) ∧ w8.cell? ⟨B7, 2, none⟩ = some (.slice (some ⟨c7, 0, none⟩) sv.length sv.length) ∧ w8.cell? ⟨B7, 3, none⟩ = some (.int .i64 off)) := MM.out
  clear SA Ad Hd XYM MM A9 H9 K9 XY9 MM9 SB' n8 c0
  have Ad := hide (A10.out.keep (Ext.refl w10).drew.bl)
  have XYd : Hid (Ints w10.drew (.slice (some ⟨b7, 0, none⟩) xs.length xs.length) xs ∧ Ints w10.drew (.slice (some ⟨c7, 0, none⟩) sv.length sv.length) sv) := ⟨XY10.out.1.below (Ext.refl w10).drew.bl, XY10.out.2.below (Ext.refl w10).drew.bl⟩
  have SA : Hid ((fun w' => w'.cell? ⟨B7, 0, none⟩ = some (.int .i64 st) ∧ w'.cell? ⟨B7, 1, none⟩ = some (.slice (some ⟨b7, 0, none⟩) xs.length xs.length) ∧ w'.cell? ⟨B7, 2, none⟩ = some (.slice (some ⟨c7, 0, none⟩) sv.length sv.length) ∧ w'.cell? ⟨B7, 3, none⟩ = some (.int .i64 off) ∧ w'.cell? ⟨w.heap.size + 1, 0, none⟩ = some (.int .i64 st) ∧ w'.cell? ⟨w.heap.size + 1, 1, none⟩ = some (.slice s1 xs.length d1) ∧ w'.cell? ⟨w.heap.size + 1, 2, none⟩ = some (.slice s2 sv.length d2) ∧ w'.cell? ⟨w.heap.size + 1, 3, none⟩ = some (.int .i64 off)) w10.drew) := ⟨MM10.out.1, MM10.out.2.1, MM10.out.2.2.1, MM10.out.2.2.2, A10.out.a0, A10.out.a1, A10.out.a2, A10.out.a3⟩
  clear SC'
  go_wp2_with fail
  go_region_held3 (fun w' => w'.cell? ⟨B7, 0, none⟩ = some (.int .i64 st) ∧ w'.cell? ⟨B7, 1, none⟩ = some (.slice (some ⟨b7, 0, none⟩) xs.length xs.length) ∧ w'.cell? ⟨B7, 2, none⟩ = some (.slice (some ⟨c7, 0, none⟩) sv.length sv.length) ∧ w'.cell? ⟨B7, 3, none⟩ = some (.int .i64 off) ∧ w'.cell? ⟨w.heap.size + 1, 0, none⟩ = some (.int .i64 st) ∧ w'.cell? ⟨w.heap.size + 1, 1, none⟩ = some (.slice s1 xs.length d1) ∧ w'.cell? ⟨w.heap.size + 1, 2, none⟩ = some (.slice s2 sv.length d2) ∧ w'.cell? ⟨w.heap.size + 1, 3, none⟩ = some (.int .i64 off)) (first | with_reducible exact SA.out | with_reducible exact SB'.out | with_reducible exact SC'.out | exact SA.out | exact SB'.out | exact SC'.out | fail) (first | (go_at_call 15; refine (eqArray_true st off XY11.out.1 XY11.out.2 P11.out Q11.out lx ls).mono ?_; rintro e w12 ⟨rfl, x12⟩; have E12 := hide (Bel.tr E11.out x12.bl); have A12 := hide (A11.out.keep x12.bl); have SC' : Hid ((fun w' => w'.cell? ⟨B7, 0, none⟩ = some (.int .i64 st) ∧ w'.cell? ⟨B7, 1, none⟩ = some (.slice (some ⟨b7, 0, none⟩) xs.length xs.length) ∧ w'.cell? ⟨B7, 2, none⟩ = some (.slice (some ⟨c7, 0, none⟩) sv.length sv.length) ∧ w'.cell? ⟨B7, 3, none⟩ = some (.int .i64 off) ∧ w'.cell? ⟨w.heap.size + 1, 0, none⟩ = some (.int .i64 st) ∧ w'.cell? ⟨w.heap.size + 1, 1, none⟩ = some (.slice s1 xs.length d1) ∧ w'.cell? ⟨w.heap.size + 1, 2, none⟩ = some (.slice s2 sv.length d2) ∧ w'.cell? ⟨w.heap.size + 1, 3, none⟩ = some (.int .i64 off)) w12) := ⟨x12.box SB'.out.1, x12.box SB'.out.2.1, x12.box SB'.out.2.2.1, x12.box SB'.out.2.2.2.1, A12.out.a0, A12.out.a1, A12.out.a2, A12.out.a3⟩; clear x12) | (go_at_call 13; refine (toArray_any st Ad.out.x Ad.out.s off lx ls).mono ?_; rintro e w11 ⟨b11, c11, rfl, _, _, _, rx, rs, x11⟩; have E11 := hide (Bel.tr E10.out (Bel.tr (Ext.refl w10).drew.bl x11.bl)); have A11 := hide (Ad.out.keep x11.bl); have P11 := hide (rx.ints (n := xs.length) (cap := xs.length) rfl); have Q11 := hide (rs.ints (n := sv.length) (cap := sv.length) rfl); have XY11 : Hid (Ints w11 (.slice (some ⟨b7, 0, none⟩) xs.length xs.length) xs ∧ Ints w11 (.slice (some ⟨c7, 0, none⟩) sv.length sv.length) sv) := ⟨XYd.out.1.below x11.bl, XYd.out.2.below x11.bl⟩; have SB' : Hid ((fun w' => w'.cell? ⟨B7, 0, none⟩ = some (.int .i64 st) ∧ w'.cell? ⟨B7, 1, none⟩ = some (.slice (some ⟨b7, 0, none⟩) xs.length xs.length) ∧ w'.cell? ⟨B7, 2, none⟩ = some (.slice (some ⟨c7, 0, none⟩) sv.length sv.length) ∧ w'.cell? ⟨B7, 3, none⟩ = some (.int .i64 off) ∧ w'.cell? ⟨w.heap.size + 1, 0, none⟩ = some (.int .i64 st) ∧ w'.cell? ⟨w.heap.size + 1, 1, none⟩ = some (.slice s1 xs.length d1) ∧ w'.cell? ⟨w.heap.size + 1, 2, none⟩ = some (.slice s2 sv.length d2) ∧ w'.cell? ⟨w.heap.size + 1, 3, none⟩ = some (.int .i64 off)) w11) := ⟨x11.box SA.out.1, x11.box SA.out.2.1, x11.box SA.out.2.2.1, x11.box SA.out.2.2.2.1, A11.out.a0, A11.out.a1, A11.out.a2, A11.out.a3⟩; clear rx rs x11) | fail)
  clear SA Ad XYd A11 P11 Q11 XY11 SB' SC' A10 XY10 A12 E9 E10 E11 MM10 A8
  have n12 := Bel.box E12.out N8.out
  have m0 := Bel.box E12.out M8.out.1
  have m1 := Bel.box E12.out M8.out.2.1
  have m2 := Bel.box E12.out M8.out.2.2.1
  have m3 := Bel.box E12.out M8.out.2.2.2
  have B712 := hide (Bel.tr B77.out (Bel.tr B78.out E12.out))
  have B6w := hide (Bel.tr B67.out B712.out)
  have B5w := hide (Bel.tr B56.out B6w.out)
  have z1 := Hg6.out
  have z2 := HB6.out
  have z3 := HsW6.out
  have z4 := Hb7.out
  have z5' := HB7.out
  have z6 := HsW7.out
  have z7 := Below.size B712.out
  have z8' := Below.size (Bel.tr B78.out E12.out)
  have z9 := Below.size B56.out
  have W12 := hide (W6r.out.step (fun b o v h => ⟨v, Bel.box B6w.out h⟩) (fun o v _ hc => Bel.box B6w.out hc))
  have F12 : Hid (∀ c o, g6 ≤ c → c < w6.heap.size → w12.frozen? ⟨c, o, none⟩ = false) := fun c o h1 h2 => (Below.frozen B6w.out (p := ⟨c, o, none⟩) h2).trans (F6.out c o h1 h2)
  have R12 : Hid (Row w12 b7 0 xs) := fun j hj => Bel.box B712.out (R7.out j hj)
  have S12 : Hid (Row w12 c7 0 sv) := fun j hj => Bel.box B712.out (S7.out j hj)
  have FF12 : Hid (∀ d o, b7 ≤ d → d ≤ c7 → w12.frozen? ⟨d, o, none⟩ = false) := fun d o h1 h2 => (Below.frozen B712.out (p := ⟨d, o, none⟩) (by show d < _; omega)).trans (F7.out d o h1 h2)
  have G12 := hide (G8.out.keep E12.out)
  go_wp2_with fail
  refine (markHeap_two (a := w5.heap.size) W12.out z1 (by omega) (by omega) Hg6s.out F12.out HL.out).mono ?_
  rintro e w13 ⟨⟨r13, rfl, h13a, h13b⟩, M13⟩
  have m0a := M13.box _ _ _ (Or.inr (by omega)) m0
  have m1a := M13.box _ _ _ (Or.inr (by omega)) m1
  have m2a := M13.box _ _ _ (Or.inr (by omega)) m2
  have m3a := M13.box _ _ _ (Or.inr (by omega)) m3
  have R13 : Hid (Row w13 b7 0 xs) := fun j hj => M13.box _ _ _ (Or.inr (by omega)) (R12.out j hj)
  have S13 : Hid (Row w13 c7 0 sv) := fun j hj => M13.box _ _ _ (Or.inr (by omega)) (S12.out j hj)
  have FF13 : Hid (∀ d o, b7 ≤ d → d ≤ c7 → w13.frozen? ⟨d, o, none⟩ = false) := fun d o h1 h2 => (M13.fz _).trans (FF12.out d o h1 h2)
  have B513 := hide (Bel.mIn B5w.out M13 (Nat.le_refl _))
  have G13 := hide (G12.out.mIn M13 (by omega))
  have z13 := Below.size M13.bl
  clear M13 m0 m1 m2 m3 n12 W12 F12 R12 S12 FF12 G12
  go_wp2_with fail
  refine (markArray_any st off R13.out S13.out (by omega) (by omega) FF13.out lx ls r13 ⟨h13a, h13b⟩).mono ?_
  rintro e w14 ⟨⟨r14, rfl, h14⟩, M14⟩
  have h14n : decide (r14 < 0) = false := decide_eq_false (by omega)
  have B514 := hide (Bel.mIn B513.out M14 (by omega))
  have G14 := hide (G13.out.mIn M14 (by omega))
  have C14 := hide (C5.out.keep B514.out)
  have z14 := Below.size M14.bl
  clear M14 m0a m1a m2a m3a R13 S13 FF13 G13 B513
  go_wp2_with fail
  refine (eqCells_same (G14.out.cv (cap := q8)) C14.out Lg.out Ll).mono ?_
  rintro e w15 ⟨rfl, x15⟩
  have G15 := hide (G14.out.keep x15.bl)
  have B515 := hide (Bel.tr B514.out x15.bl)
  have z15 := Below.size x15.bl
  clear x15 G14 C14 B514
  go_wp2_with fail
  refine (markG_any (cap := q8) G15.out Ll (by omega)).mono ?_
  rintro e w16 ⟨rfl, V16, y16⟩
  have HV16 := hide V16
  have B516 : Hid (Bel w5 w16) := Below.trans B515.out (Below.mono y16 (by omega))
  clear V16 y16 G15 B515
  go_wp2_with fail
  refine (heldC_any 1 HV16.out (by omega) Ll).mono ?_
  rintro e w17 ⟨rfl, x17⟩
  have A17 := hide (A5.out.keep (Bel.tr B516.out x17.bl))
  have B517 := hide (Bel.tr B516.out x17.bl)
  clear x17 HV16 B516
  have c0 := A17.out.c0
  have a0 := A17.out.a0
  have a1 := A17.out.a1
  have a2 := A17.out.a2
  have a3 := A17.out.a3
  have hq0 : decide (1 + 3 * (LL.length : Int) < 0) = false := decide_eq_false (by omega)
  have SA : Hid ((fun w' => w'.cell? ⟨w.heap.size, 0, none⟩ = some (.slice sa ss.length cap) ∧ w'.cell? ⟨w.heap.size + 1, 0, none⟩ = some (.int .i64 st) ∧ w'.cell? ⟨w.heap.size + 1, 1, none⟩ = some (.slice s1 xs.length d1) ∧ w'.cell? ⟨w.heap.size + 1, 2, none⟩ = some (.slice s2 sv.length d2) ∧ w'.cell? ⟨w.heap.size + 1, 3, none⟩ = some (.int .i64 off)) w17.drew) := ⟨c0, a0, a1, a2, a3⟩
  have Ad := hide (A17.out.keep (Ext.refl w17).drew.bl)
  go_wp2_with fail
  go_region_held3 (fun w' => w'.cell? ⟨w.heap.size, 0, none⟩ = some (.slice sa ss.length cap) ∧ w'.cell? ⟨w.heap.size + 1, 0, none⟩ = some (.int .i64 st) ∧ w'.cell? ⟨w.heap.size + 1, 1, none⟩ = some (.slice s1 xs.length d1) ∧ w'.cell? ⟨w.heap.size + 1, 2, none⟩ = some (.slice s2 sv.length d2) ∧ w'.cell? ⟨w.heap.size + 1, 3, none⟩ = some (.int .i64 off)) (first | with_reducible exact SA.out | with_reducible exact SB'.out | with_reducible exact SC'.out | with_reducible exact SD'.out | exact SA.out | exact SB'.out | exact SC'.out | exact SD'.out | fail) (first | (go_at_call 17; refine (iRd_any H19.out HG.out HL.out st X19.out Y19.out off lx ls).mono ?_; intro e w20 hok20; obtain ⟨z20, q20, rfl, ho20, x20⟩ := hok20; have C20 := hide (ho20.cv (cap := q20)); have A20 := hide (A19.out.keep x20); have E20 := hide (Bel.tr E19.out x20); have SD' : Hid ((fun w' => w'.cell? ⟨w.heap.size, 0, none⟩ = some (.slice sa ss.length cap) ∧ w'.cell? ⟨w.heap.size + 1, 0, none⟩ = some (.int .i64 st) ∧ w'.cell? ⟨w.heap.size + 1, 1, none⟩ = some (.slice s1 xs.length d1) ∧ w'.cell? ⟨w.heap.size + 1, 2, none⟩ = some (.slice s2 sv.length d2) ∧ w'.cell? ⟨w.heap.size + 1, 3, none⟩ = some (.int .i64 off)) w20) := ⟨A20.out.c0, A20.out.a0, A20.out.a1, A20.out.a2, A20.out.a3⟩; clear x20 ho20) | (go_at_call 13; refine (toArray_any st A18.out.x A18.out.s off lx ls).mono ?_; rintro e w19 ⟨b19, c19, rfl, _, _, _, rx, rs, x19⟩; have A19 := hide (A18.out.keep x19.bl); have H19 := hide (H18.out.keep x19.bl); have X19 := hide (rx.ints (n := xs.length) (cap := xs.length) rfl); have Y19 := hide (rs.ints (n := sv.length) (cap := sv.length) rfl); have E19 := hide (Bel.tr E18.out x19.bl); have SC' : Hid ((fun w' => w'.cell? ⟨w.heap.size, 0, none⟩ = some (.slice sa ss.length cap) ∧ w'.cell? ⟨w.heap.size + 1, 0, none⟩ = some (.int .i64 st) ∧ w'.cell? ⟨w.heap.size + 1, 1, none⟩ = some (.slice s1 xs.length d1) ∧ w'.cell? ⟨w.heap.size + 1, 2, none⟩ = some (.slice s2 sv.length d2) ∧ w'.cell? ⟨w.heap.size + 1, 3, none⟩ = some (.int .i64 off)) w19) := ⟨A19.out.c0, A19.out.a0, A19.out.a1, A19.out.a2, A19.out.a3⟩; clear x19 rx rs) | (go_at_call 8; refine (toHeap_any Ad.out.h HL.out).mono ?_; rintro e w18 ⟨g18, rfl, _, rp, x18⟩; have A18 := hide (Ad.out.keep x18.bl); have H18 := hide (rp.sv (n := ss.length) (cap := ss.length) rfl); have E18 := hide (Bel.tr (Ext.refl w17).drew.bl x18.bl); have SB' : Hid ((fun w' => w'.cell? ⟨w.heap.size, 0, none⟩ = some (.slice sa ss.length cap) ∧ w'.cell? ⟨w.heap.size + 1, 0, none⟩ = some (.int .i64 st) ∧ w'.cell? ⟨w.heap.size + 1, 1, none⟩ = some (.slice s1 xs.length d1) ∧ w'.cell? ⟨w.heap.size + 1, 2, none⟩ = some (.slice s2 sv.length d2) ∧ w'.cell? ⟨w.heap.size + 1, 3, none⟩ = some (.int .i64 off)) w18) := ⟨A18.out.c0, A18.out.a0, A18.out.a1, A18.out.a2, A18.out.a3⟩; clear rp x18) | fail)
  have C21 := hide (C5.out.keep (Bel.tr B517.out E20.out))
  rw [HLL.out] at C20 ⊢
  go_wp2_with (go_at_call 18; refine (eqCells_same C20.out C21.out Lg.out Ll).mono ?_; rintro e w21 ⟨rfl, x21⟩)
  go_ret
  exact ⟨rfl, Bel.tr A20.out.bl x21.bl⟩
end Go.Proofs.Ytccbffhjibigeaa
