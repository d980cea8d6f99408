import Derived.Test.YtbkdfhlbjaiahaaHSz
import Derived.Test.YtbkdfhlbjaiahaaHCopy
import Derived.Test.YtbkdfhlbjaiahaaHEq
import Derived.Test.YtbkdfhlbjaiahaaHValid
namespace Go.Proofs.Ytbkdfhlbjaiahaa
open Go.ChangeShapes Go.RowKit FL
set_option linter.unusedSimpArgs false
set_option linter.unusedVariables false

set_option maxRecDepth 100000 in
set_option maxHeartbeats 2000000 in
theorem lawVH (w : World) (v : Value) (ss : List St) (hX : SV w v ss) (hb : SB ss) (hg : SG ss) :
    Calls Try.prog 3 #[.agg #[v]] w fun e w' => LawOk w e w' := by
  obtain ⟨sa, cap, rfl, hx⟩ := hX
  have hX : SV w (.slice sa ss.length cap) ss := ⟨sa, cap, rfl, hx⟩
  have x0 : Ext w (w.alloc (.cells #[.slice sa ss.length cap] 24)) := (Ext.refl w).alloc _ _
  have A0 := hide (hX.keep x0.bl)
  have D0 := hide (new_cell w #[.slice sa ss.length cap] 24 w.heap.size rfl 0)
  have Z0 := hide x0
  have HS := hide (szHeap_any A0.out hb 1048576 (by omega))
  clear hx hX x0
  go_enter Try.func3, Try.ntmps3
  go_wp2_with fail
  refine HS.out.mono ?_
  rintro e w1 ⟨⟨r, rfl, hr⟩, x1⟩
  have d1 := x1.box D0.out
  have D1 := hide d1
  have Z1 := hide (Z0.out.trans x1)
  have A1 := hide (A0.out.keep x1.bl)
  clear x1 HS A0 D0 Z0
  rcases hr with hr | ⟨h1, h2, hl⟩
  · go_wp2
    go_ret
    exact ⟨rfl, Z1.out.bl⟩
  have hr : ¬ r < 0 := by omega
  have HL := hide hl
  have HG := hide hg
  clear hl hg hb
  go_wp2_with fail
  refine (toHeap_any A1.out HL.out).mono ?_
  rintro e w2 ⟨g2, rfl, hg2, rp, x2⟩
  have d2 := x2.box D1.out
  have D2 := hide d2
  have Z2 := hide (Z1.out.trans x2)
  have A2 := hide (A1.out.keep x2.bl)
  have P2 := hide (rp.sv (n := ss.length) (cap := ss.length) rfl)
  clear rp x2 hg2 d1 D1 Z1 A1
  go_wp2_with fail
  refine (sVH_any P2.out HG.out HL.out).mono ?_
  rintro e w3 ⟨rfl, x3⟩
  have d3 := x3.box D2.out
  have D3 := hide d3
  have Z3 := hide (Z2.out.trans x3)
  have A3 := hide (A2.out.keep x3.bl)
  clear x3 d2 D2 Z2 A2 P2
  go_wp2_with fail
  refine (toHeap_any A3.out HL.out).mono ?_
  rintro e w4 ⟨g4, rfl, hg4, rp, x4⟩
  have d4 := x4.box D3.out
  have D4 := hide d4
  have Z4 := hide (Z3.out.trans x4)
  have A4 := hide (A3.out.keep x4.bl)
  have P4 := hide (rp.sv (n := ss.length) (cap := ss.length) rfl)
  clear rp x4 hg4 d3 D3 Z3 A3
  go_wp2_with fail
  have xa : Ext w4 (w4.alloc (.cells #[.slice (some ⟨g4, 0, none⟩) ss.length ss.length] 29)) := (Ext.refl w4).alloc _ _
  have b4 := new_cell w4 #[.slice (some ⟨g4, 0, none⟩) ss.length ss.length] 29 w4.heap.size rfl 0
  refine (iVH_any (P4.out.keep xa.bl) HG.out HL.out).mono ?_
  rintro e w5 ⟨rfl, x5⟩
  have xb := xa.trans x5
  have d5 := xb.box D4.out
  have b5 := x5.box b4
  have D5 := hide d5
  have B5 := hide b5
  have Z5 := hide (Z4.out.trans xb)
  have A5 := hide (A4.out.keep xb.bl)
  have P5 := hide (P4.out.keep xb.bl)
  clear xa xb x5 b4 d4 D4 Z4 A4 P4
  generalize vHeap ss = V
  have xd : Ext w5 w5.drew := (Ext.refl w5).drew
  have C1 := hide (toHeap_any (A5.out.keep xd.bl) HL.out)
  have SA : Hid ((fun w' => w'.cell? ⟨w4.heap.size, 0, none⟩ = some (.slice (some ⟨g4, 0, none⟩) ss.length ss.length) ∧ w'.cell? ⟨w.heap.size, 0, none⟩ = some (.slice sa ss.length cap)) w5.drew) := ⟨b5, d5⟩
  clear xd
  go_wp2_with fail
  go_region_held3 (fun w' => w'.cell? ⟨w4.heap.size, 0, none⟩ = some (.slice (some ⟨g4, 0, none⟩) ss.length ss.length) ∧ w'.cell? ⟨w.heap.size, 0, none⟩ = some (.slice sa ss.length cap)) (first | with_reducible exact SA.out | with_reducible exact SB'.out | with_reducible exact SC'.out | exact SA.out | exact SB'.out | exact SC'.out | fail) (first | (go_at_call 10; refine (eqHeap_same P6.out Q6.out HG.out HL.out).mono ?_; rintro e w7 ⟨rfl, x7⟩; have Z7 := hide (Z6.out.trans x7); have SC' : Hid ((fun w' => w'.cell? ⟨w4.heap.size, 0, none⟩ = some (.slice (some ⟨g4, 0, none⟩) ss.length ss.length) ∧ w'.cell? ⟨w.heap.size, 0, none⟩ = some (.slice sa ss.length cap)) w7) := ⟨x7.box SB'.out.1, x7.box SB'.out.2⟩; clear x7) | (go_at_call 8; refine C1.out.mono ?_; rintro e w6 ⟨g6, rfl, hg6, rp, x6⟩; have xq := (Ext.refl w5).drew.trans x6; have P6 := hide (P5.out.keep xq.bl); have Q6 := hide (rp.sv (n := ss.length) (cap := ss.length) rfl); have Z6 := hide (Z5.out.trans xq); have SB' : Hid ((fun w' => w'.cell? ⟨w4.heap.size, 0, none⟩ = some (.slice (some ⟨g4, 0, none⟩) ss.length ss.length) ∧ w'.cell? ⟨w.heap.size, 0, none⟩ = some (.slice sa ss.length cap)) w6) := ⟨x6.box SA.out.1, x6.box SA.out.2⟩; clear rp x6 xq hg6) | fail)
  go_wp2
  go_ret
  exact ⟨rfl, Z7.out.bl⟩
end Go.Proofs.Ytbkdfhlbjaiahaa
