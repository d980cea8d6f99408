import Derived.Test.YtjbbodfdpbcnhaaGreatM13
import Derived.Test.YtjbbodfdpbcnhaaGreatM6
import Derived.Test.YtjbbodfdpbcnhaaGreatM7
import Derived.Deep.CutBlock
import Derived.BigRegion
import Derived.Deep.DeepCutAuto
import Derived.Test.YtjbbodfdpbcnhaaGreatM8
import Derived.ProofKit
import Derived.OpenShut
import Derived.ChangeSlices
import Derived.Carry
set_option linter.unusedSimpArgs false
set_option linter.unusedVariables false
set_option maxRecDepth 100000
set_option maxHeartbeats 8000000
namespace Go.Proofs.YtjbbodfdpbcnhaaGreat
open List renaming setIfInBounds_toArray → sT, set_cons_zero → sZ, set_cons_succ → sS
open Go.Value renaming int → O, slice → σ, pointer → π, agg → γ
open Go.IntKind renaming i64 → ι
open Go.Obj renaming cells → χ
open Go.Act renaming put → aP
section
open Go.ChangeShapes Go.RowKit FL
structure P8 (w W : World) (sa : Option Addr) (cap : Nat) (ss : List St) (st off : Int) (tS tT : Option Addr) (cS cT : Nat) (xs sv : List Int) : Prop where
 b4 : Bx W w.heap.size 25 [σ sa ss.length cap]
 b5 : Bx W (w.heap.size + 1) 30 [O ι st, σ tS xs.length cS, σ tT sv.length cT, O ι off]
 b7 : Bx W (w.heap.size + 1 + 1) 30 [O ι st, σ tS xs.length cS, σ tT sv.length cT, O ι off]
 b8 : Bx W (w.heap.size + 1 + 1 + 1) 36 [O ι 0, σ none 0 0]
 sV : SV W (σ sa ss.length cap) ss
 iS : Ints W (σ tS xs.length cS) xs
 iT : Ints W (σ tT sv.length cT) sv
 bl : Bel w W
theorem P8.bel {w W W' : World} {sa : Option Addr} {cap : Nat} {ss : List St} {st off : Int} {tS tT : Option Addr} {cS cT : Nat} {xs sv : List Int} (h : P8 w W sa cap ss st off tS tT cS cT xs sv) (x : Bel W W') : P8 w W' sa cap ss st off tS tT cS cT xs sv :=
 ⟨h.b4.bel x, h.b5.bel x, h.b7.bel x, h.b8.bel x, h.sV.keep x, h.iS.below x, h.iT.below x, Bel.tr h.bl x⟩
theorem zc22 {w : World} {v vS vT : Value} {ss : List St} {xs sv : List Int} (h : SV w v ss) (hg : SG ss) (hl : SL ss 1048576) (st off : Int) (hS : Ints w vS xs) (hT : Ints w vT sv) (lx : xs.length ≤ 1048576) (ls : sv.length ≤ 1048576) (hvh : vHeap ss = true) (hG : GoodA ss st xs sv off) (hw : WrV xs sv off) (hlen : (offsL xs sv off).length = 1 ∨ (offsL xs sv off).length = 0) (hc : castL (ss.getD st.toNat s0).1 (ss.getD st.toNat s0).1 1 = true) (zn23 : Option Addr) (cI : Nat) :
  Calls Tryz.prog 8 #[γ #[v], γ #[O ι st, vS, vT, O ι off], σ zn23 0 cI, γ #[O ι st, vS, vT, O ι off]] w fun e w' => (∃ hp : Value, e = .returned (γ #[O ι 0, hp])) ∧ Bel w w' := by
 have HGq := hide hG
 have HWq := hide hw
 clear hG hw
 obtain ⟨sa, cap, rfl, hx⟩ := h
 have h : SV w (σ sa ss.length cap) ss := ⟨sa, cap, rfl, hx⟩
 obtain ⟨tS, cS, rfl, hSo⟩ := hS
 have hS : Ints w (σ tS xs.length cS) xs := ⟨tS, cS, rfl, hSo⟩
 obtain ⟨tT, cT, rfl, hTo⟩ := hT
 have hT : Ints w (σ tT sv.length cT) sv := ⟨tT, cT, rfl, hTo⟩
 have x0 : Ext w ((((w.alloc (χ #[σ sa ss.length cap] 25)).alloc (χ #[O ι st, σ tS xs.length cS, σ tT sv.length cT, O ι off] 30)).alloc (χ #[O ι st, σ tS xs.length cS, σ tT sv.length cT, O ι off] 30)).alloc (χ #[O ι 0, σ none 0 0] 36)) := ((((Ext.refl w).alloc _ _).alloc _ _).alloc _ _).alloc _ _
 have F0 : Hid (P8 w ((((w.alloc (χ #[σ sa ss.length cap] 25)).alloc (χ #[O ι st, σ tS xs.length cS, σ tT sv.length cT, O ι off] 30)).alloc (χ #[O ι st, σ tS xs.length cS, σ tT sv.length cT, O ι off] 30)).alloc (χ #[O ι 0, σ none 0 0] 36)) sa cap ss st off tS tT cS cT xs sv) :=
  ⟨(((Bx.new w 25 #[σ sa ss.length cap] _ rfl).alloc _).alloc _).alloc _, ((Bx.new (w.alloc (χ #[σ sa ss.length cap] 25)) 30 #[O ι st, σ tS xs.length cS, σ tT sv.length cT, O ι off] _ (by simp)).alloc _).alloc _, (Bx.new ((w.alloc (χ #[σ sa ss.length cap] 25)).alloc (χ #[O ι st, σ tS xs.length cS, σ tT sv.length cT, O ι off] 30)) 30 #[O ι st, σ tS xs.length cS, σ tT sv.length cT, O ι off] _ (by simp)).alloc _, Bx.new (((w.alloc (χ #[σ sa ss.length cap] 25)).alloc (χ #[O ι st, σ tS xs.length cS, σ tT sv.length cT, O ι off] 30)).alloc (χ #[O ι st, σ tS xs.length cS, σ tT sv.length cT, O ι off] 30)) 36 #[O ι 0, σ none 0 0] _ (by simp), h.keep x0.bl, hS.ext x0, hT.ext x0, x0.bl⟩
 clear x0 h hS hT hx hSo hTo
 go_enter Tryz.func8, Tryz.ntmps8
 go_wp2_with fail
 have hszW : ((((w.alloc (χ #[σ sa ss.length cap] 25)).alloc (χ #[O ι st, σ tS xs.length cS, σ tT sv.length cT, O ι off] 30)).alloc (χ #[O ι st, σ tS xs.length cS, σ tT sv.length cT, O ι off] 30)).alloc (χ #[O ι 0, σ none 0 0] 36)).heap.size = w.heap.size + 1 + 1 + 1 + 1 := by simp
 generalize (((w.alloc (χ #[σ sa ss.length cap] 25)).alloc (χ #[O ι st, σ tS xs.length cS, σ tT sv.length cT, O ι off] 30)).alloc (χ #[O ι st, σ tS xs.length cS, σ tT sv.length cT, O ι off] 30)).alloc (χ #[O ι 0, σ none 0 0] 36) = W0 at F0 hszW ⊢
 have hAl : Hid (firstL ss [⟨st, xs, sv, off⟩, ⟨st, xs, sv, off⟩] = 0) := by
  show _ = _
  unfold firstL
  rw [if_pos hvh, if_pos (fun a ha => by simp at ha; subst ha; exact HGq.out)]
 have F1 := hide (F0.out.bel ((Ext.refl W0).alloc #[O ι st, σ tS xs.length cS, σ tT sv.length cT, O ι off, O ι st, σ tS xs.length cS, σ tT sv.length cT, O ι off] 30).bl)
 have n1 := fun j => zg W0 #[O ι st, σ tS xs.length cS, σ tT sv.length cT, O ι off, O ι st, σ tS xs.length cS, σ tT sv.length cT, O ι off] 30 (w.heap.size + 1 + 1 + 1 + 1) hszW.symm j
 have HRW : Hid (ARow (W0.alloc (χ #[O ι st, σ tS xs.length cS, σ tT sv.length cT, O ι off, O ι st, σ tS xs.length cS, σ tT sv.length cT, O ι off] 30)) (w.heap.size + 1 + 1 + 1 + 1) 0 [⟨st, xs, sv, off⟩, ⟨st, xs, sv, off⟩]) := fun j hj => by
  rcases (show j = 0 ∨ j = 1 by simp at hj; omega) with rfl | rfl
  ·exact ⟨_, _, n1 0, n1 1, n1 2, n1 3, F1.out.iS, F1.out.iT⟩
  ·exact ⟨_, _, n1 4, n1 5, n1 6, n1 7, F1.out.iS, F1.out.iT⟩
 clear n1 hszW F0
 generalize W0.alloc (χ #[O ι st, σ tS xs.length cS, σ tT sv.length cT, O ι off, O ι st, σ tS xs.length cS, σ tT sv.length cT, O ι off] 30) = W1 at F1 HRW ⊢
 refine (zo12 (cp := 2) F1.out.sV hg hl HRW.out (fun a ha => by simp at ha; subst ha; exact ⟨lx, ls⟩) (by simp)).mono ?_
 rintro e W2 ⟨rfl, x2⟩
 rw [hAl.out]
 have F2 := hide (F1.out.bel x2)
 clear x2 F1 HRW hAl
 have c4 := F2.out.b4.cell 0 rfl
 have c70 := F2.out.b7.cell 0 rfl
 have c71 := F2.out.b7.cell 1 rfl
 have c72 := F2.out.b7.cell 2 rfl
 have c73 := F2.out.b7.cell 3 rfl
 go_wp2_with fail
 refine (zr8 F2.out.sV hl st F2.out.iS F2.out.iT off HGq.out).mono ?_
 rintro e W3 ⟨s3, p3, rfl, _, x3⟩
 have F3 := hide (F2.out.bel x3)
 have hrl : (readL ss st xs sv off).length = (offsL xs sv off).length := by simp [readL]
 rw [hrl]
 clear x3 F2 c4 c70 c71 c72 c73 hrl
 have hN : ∃ N : Nat, (offsL xs sv off).length = N := ⟨_, rfl⟩
 have c51 := F3.out.b5.cell 1 rfl
 have c52 := F3.out.b5.cell 2 rfl
 have c53 := F3.out.b5.cell 3 rfl
 have HOF := hide (fun W (hh : P8 w W sa cap ss st off tS tT cS cT xs sv) => za2 hh.iS hh.iT off (show ValidV xs sv off from HGq.out.2.1))
 rcases hlen with hl1 | hl1
 ·rw [hl1]
  have HL1 := hide hl1
  clear hl1
  go_wp2_with fail
  refine (HOF.out _ F3.out).mono ?_
  rintro e W4 hlo
  obtain ⟨s4, p4, rfl, _, x4⟩ := hlo
  rw [HL1.out]
  have F4 := hide (F3.out.bel x4)
  clear x4 F3 c51 c52 c53
  go_wp2_with fail
  refine (zi5 _ _ _ _).mono ?_
  rintro e W4 ⟨rfl, rfl⟩
  have HST : Hid (0 ≤ st ∧ st < (ss.length : Int)) := HGq.out.1
  go_wp2_with fail
  have F4d := hide (F4.out.bel (zz W4))
  have SA : Hid ((fun w' : World => w'.cell? ⟨w.heap.size, 0, none⟩ = some (σ sa ss.length cap) ∧ w'.cell? ⟨w.heap.size + 1, 0, none⟩ = some (O ι st) ∧ w'.cell? ⟨w.heap.size + 1, 1, none⟩ = some (σ tS xs.length cS) ∧ w'.cell? ⟨w.heap.size + 1, 2, none⟩ = some (σ tT sv.length cT) ∧ w'.cell? ⟨w.heap.size + 1, 3, none⟩ = some (O ι off) ∧ w'.cell? ⟨w.heap.size + 1 + 1, 0, none⟩ = some (O ι st) ∧ w'.cell? ⟨w.heap.size + 1 + 1, 1, none⟩ = some (σ tS xs.length cS) ∧ w'.cell? ⟨w.heap.size + 1 + 1, 2, none⟩ = some (σ tT sv.length cT) ∧ w'.cell? ⟨w.heap.size + 1 + 1, 3, none⟩ = some (O ι off)) W4.drew) := ⟨F4d.out.b4.cell 0 rfl, F4d.out.b5.cell 0 rfl, F4d.out.b5.cell 1 rfl, F4d.out.b5.cell 2 rfl, F4d.out.b5.cell 3 rfl, F4d.out.b7.cell 0 rfl, F4d.out.b7.cell 1 rfl, F4d.out.b7.cell 2 rfl, F4d.out.b7.cell 3 rfl⟩
  refine zv (S := (fun w' : World => w'.cell? ⟨w.heap.size, 0, none⟩ = some (σ sa ss.length cap) ∧ w'.cell? ⟨w.heap.size + 1, 0, none⟩ = some (O ι st) ∧ w'.cell? ⟨w.heap.size + 1, 1, none⟩ = some (σ tS xs.length cS) ∧ w'.cell? ⟨w.heap.size + 1, 2, none⟩ = some (σ tT sv.length cT) ∧ w'.cell? ⟨w.heap.size + 1, 3, none⟩ = some (O ι off) ∧ w'.cell? ⟨w.heap.size + 1 + 1, 0, none⟩ = some (O ι st) ∧ w'.cell? ⟨w.heap.size + 1 + 1, 1, none⟩ = some (σ tS xs.length cS) ∧ w'.cell? ⟨w.heap.size + 1 + 1, 2, none⟩ = some (σ tT sv.length cT) ∧ w'.cell? ⟨w.heap.size + 1 + 1, 3, none⟩ = some (O ι off))) (late := []) (by kernel_rfl) ?_
  generalize W4.drew = W4d at SA F4d ⊢
  refine zd (i := 0) (v := γ #[σ sa ss.length cap]) rfl (by kernel_rfl) (by kernel_rfl) (fun _ _ _ h => by cases h.1) _ (by kernel_rfl) (by kernel_rfl) (Or.inl ⟨by rfl, ?_⟩) SA.out ?_
  ·rintro w' ⟨z0, z1, z2, z3, z4, z5, z6, z7, z8⟩
   go_simp
  simp only [aP, sT, sZ, sS]
  refine zd (i := 1) (v := γ #[σ sa ss.length cap]) rfl (by kernel_rfl) (by kernel_rfl) (fun _ _ _ h => by cases h.1) _ (by kernel_rfl) (by kernel_rfl) (Or.inl ⟨by rfl, ?_⟩) SA.out ?_
  ·rintro w' ⟨z0, z1, z2, z3, z4, z5, z6, z7, z8⟩
   go_simp
  simp only [aP, sT, sZ, sS]
  refine zd (i := 2) (v := γ #[O ι st, σ tS xs.length cS, σ tT sv.length cT, O ι off]) rfl (by kernel_rfl) (by kernel_rfl) (fun _ _ _ h => by cases h.1) _ (by kernel_rfl) (by kernel_rfl) (Or.inl ⟨by rfl, ?_⟩) SA.out ?_
  ·rintro w' ⟨z0, z1, z2, z3, z4, z5, z6, z7, z8⟩
   go_simp
  simp only [aP, sT, sZ, sS]
  refine zd (i := 4) (v := γ #[O ι st, σ tS xs.length cS, σ tT sv.length cT, O ι off]) rfl (by kernel_rfl) (by kernel_rfl) (fun _ _ _ h => by cases h.1) _ (by kernel_rfl) (by kernel_rfl) (Or.inl ⟨by rfl, ?_⟩) SA.out ?_
  ·rintro w' ⟨z0, z1, z2, z3, z4, z5, z6, z7, z8⟩
   go_simp
  simp only [aP, sT, sZ, sS]
  refine ze (i := 3) (by kernel_rfl) rfl (fun K hK => ?_)
  go_simp
  refine (ze3 F4d.out.sV st off HST.out.1 HST.out.2).mono ?_
  rintro e t1 ⟨rfl, x1⟩
  have F5 := hide (F4d.out.bel x1.bl)
  have HLK := hide (fun W (hh : P8 w W sa cap ss st off tS tT cS cT xs sv) => zt16 hh.sV st off ((ss.getD st.toNat s0).1) HST.out.1 HST.out.2 hh.iS hh.iT lx ls HWq.out hc)
  generalize (ss.getD st.toNat s0).1 = dd at HLK ⊢
  have S1 : Hid ((fun w' : World => w'.cell? ⟨w.heap.size, 0, none⟩ = some (σ sa ss.length cap) ∧ w'.cell? ⟨w.heap.size + 1, 0, none⟩ = some (O ι st) ∧ w'.cell? ⟨w.heap.size + 1, 1, none⟩ = some (σ tS xs.length cS) ∧ w'.cell? ⟨w.heap.size + 1, 2, none⟩ = some (σ tT sv.length cT) ∧ w'.cell? ⟨w.heap.size + 1, 3, none⟩ = some (O ι off) ∧ w'.cell? ⟨w.heap.size + 1 + 1, 0, none⟩ = some (O ι st) ∧ w'.cell? ⟨w.heap.size + 1 + 1, 1, none⟩ = some (σ tS xs.length cS) ∧ w'.cell? ⟨w.heap.size + 1 + 1, 2, none⟩ = some (σ tT sv.length cT) ∧ w'.cell? ⟨w.heap.size + 1 + 1, 3, none⟩ = some (O ι off)) t1) := ⟨F5.out.b4.cell 0 rfl, F5.out.b5.cell 0 rfl, F5.out.b5.cell 1 rfl, F5.out.b5.cell 2 rfl, F5.out.b5.cell 3 rfl, F5.out.b7.cell 0 rfl, F5.out.b7.cell 1 rfl, F5.out.b7.cell 2 rfl, F5.out.b7.cell 3 rfl⟩
  refine hK.out _ _ (fun _ => S1.out) ?_
  clear hK K
  try simp only [aP, sT, sZ, sS]
  clear x1
  refine ze (i := 5) (by kernel_rfl) rfl (fun K hK => ?_)
  go_simp
  refine (HLK.out _ F5.out).mono ?_
  rintro e t2 ⟨rfl, x2⟩
  have F6 := hide (F5.out.bel x2)
  have S2 : Hid ((fun w' : World => w'.cell? ⟨w.heap.size, 0, none⟩ = some (σ sa ss.length cap) ∧ w'.cell? ⟨w.heap.size + 1, 0, none⟩ = some (O ι st) ∧ w'.cell? ⟨w.heap.size + 1, 1, none⟩ = some (σ tS xs.length cS) ∧ w'.cell? ⟨w.heap.size + 1, 2, none⟩ = some (σ tT sv.length cT) ∧ w'.cell? ⟨w.heap.size + 1, 3, none⟩ = some (O ι off) ∧ w'.cell? ⟨w.heap.size + 1 + 1, 0, none⟩ = some (O ι st) ∧ w'.cell? ⟨w.heap.size + 1 + 1, 1, none⟩ = some (σ tS xs.length cS) ∧ w'.cell? ⟨w.heap.size + 1 + 1, 2, none⟩ = some (σ tT sv.length cT) ∧ w'.cell? ⟨w.heap.size + 1 + 1, 3, none⟩ = some (O ι off)) t2) := ⟨F6.out.b4.cell 0 rfl, F6.out.b5.cell 0 rfl, F6.out.b5.cell 1 rfl, F6.out.b5.cell 2 rfl, F6.out.b5.cell 3 rfl, F6.out.b7.cell 0 rfl, F6.out.b7.cell 1 rfl, F6.out.b7.cell 2 rfl, F6.out.b7.cell 3 rfl⟩
  refine hK.out _ _ (fun _ => S2.out) ?_
  clear hK K
  try simp only [aP, sT, sZ, sS]
  clear x2
  refine ze (i := 6) (by kernel_rfl) rfl (fun K hK => ?_)
  go_simp
  refine hK.out _ _ (fun _ => S2.out) ?_
  clear hK K
  try simp only [aP, sT, sZ, sS]
  refine zm (by kernel_rfl) ?_ _
  refine ⟨rfl, ?_⟩
  clear SA S1 S2 F4d F5 F4 HLK
  have hss0 : 0 < ss.length := by have := HST.out; omega
  have k4 := F6.out.b4.cell 0 rfl
  go_wp2_with fail
  refine (zs8 F6.out.sV hl hss0).mono ?_
  rintro e W7 ⟨g7, c7, cb7, rfl, _, x7⟩
  have F7 := hide ((F6.out.bel x7).bel ((Ext.refl W7).alloc #[σ (some ⟨g7, 0, none⟩) ss.length c7] 25).bl)
  have B13 : Hid (Bx (W7.alloc (χ #[σ (some ⟨g7, 0, none⟩) ss.length c7] 25)) W7.heap.size 25 [σ (some ⟨g7, 0, none⟩) ss.length c7]) := Bx.new W7 25 #[σ (some ⟨g7, 0, none⟩) ss.length c7] _ rfl
  clear x7 k4 F6
  go_wp2_with fail
  generalize W7.heap.size = k13 at B13 ⊢
  generalize W7.alloc (χ #[σ (some ⟨g7, 0, none⟩) ss.length c7] 25) = W8 at F7 B13 ⊢
  refine wp_loop_rounds 1 ?_
  rw [rounds_succ]
  have q13 := B13.out.cell 0 rfl
  have q80 := F7.out.b8.cell 0 rfl
  have q81 := F7.out.b8.cell 1 rfl
  have q8f := fun o => F7.out.b8.fz o
  have HBL := hide F7.out.bl
  go_wp2
  refine bodyPost_ret (v := γ #[O ι 0, σ (some ⟨g7, 0, none⟩) ss.length c7]) (by simp [results, Tryz.results8, go_sem, q80, q81]) rfl ⟨⟨_, rfl⟩, ?_⟩
  exact (HBL.out.setCell (p := ⟨w.heap.size + 1 + 1 + 1, 0, none⟩) (by show w.heap.size ≤ w.heap.size + 1 + 1 + 1; omega) _).setCell (p := ⟨w.heap.size + 1 + 1 + 1, 1, none⟩) (by show w.heap.size ≤ w.heap.size + 1 + 1 + 1; omega) _
 ·rw [hl1]
  have HL1 := hide hl1
  clear hl1
  go_wp2_with fail
  refine (HOF.out _ F3.out).mono ?_
  rintro e W4 hlo
  obtain ⟨s4, p4, rfl, _, x4⟩ := hlo
  rw [HL1.out]
  have F4 := hide (F3.out.bel x4)
  clear x4 F3 c51 c52 c53
  go_wp2_with fail
  refine (zi5 _ _ _ _).mono ?_
  rintro e W4 ⟨rfl, rfl⟩
  have HST : Hid (0 ≤ st ∧ st < (ss.length : Int)) := HGq.out.1
  go_wp2_with fail
  have F4d := hide (F4.out.bel (zz W4))
  have SA : Hid ((fun w' : World => w'.cell? ⟨w.heap.size, 0, none⟩ = some (σ sa ss.length cap) ∧ w'.cell? ⟨w.heap.size + 1, 0, none⟩ = some (O ι st) ∧ w'.cell? ⟨w.heap.size + 1, 1, none⟩ = some (σ tS xs.length cS) ∧ w'.cell? ⟨w.heap.size + 1, 2, none⟩ = some (σ tT sv.length cT) ∧ w'.cell? ⟨w.heap.size + 1, 3, none⟩ = some (O ι off) ∧ w'.cell? ⟨w.heap.size + 1 + 1, 0, none⟩ = some (O ι st) ∧ w'.cell? ⟨w.heap.size + 1 + 1, 1, none⟩ = some (σ tS xs.length cS) ∧ w'.cell? ⟨w.heap.size + 1 + 1, 2, none⟩ = some (σ tT sv.length cT) ∧ w'.cell? ⟨w.heap.size + 1 + 1, 3, none⟩ = some (O ι off)) W4.drew) := ⟨F4d.out.b4.cell 0 rfl, F4d.out.b5.cell 0 rfl, F4d.out.b5.cell 1 rfl, F4d.out.b5.cell 2 rfl, F4d.out.b5.cell 3 rfl, F4d.out.b7.cell 0 rfl, F4d.out.b7.cell 1 rfl, F4d.out.b7.cell 2 rfl, F4d.out.b7.cell 3 rfl⟩
  refine zv (S := (fun w' : World => w'.cell? ⟨w.heap.size, 0, none⟩ = some (σ sa ss.length cap) ∧ w'.cell? ⟨w.heap.size + 1, 0, none⟩ = some (O ι st) ∧ w'.cell? ⟨w.heap.size + 1, 1, none⟩ = some (σ tS xs.length cS) ∧ w'.cell? ⟨w.heap.size + 1, 2, none⟩ = some (σ tT sv.length cT) ∧ w'.cell? ⟨w.heap.size + 1, 3, none⟩ = some (O ι off) ∧ w'.cell? ⟨w.heap.size + 1 + 1, 0, none⟩ = some (O ι st) ∧ w'.cell? ⟨w.heap.size + 1 + 1, 1, none⟩ = some (σ tS xs.length cS) ∧ w'.cell? ⟨w.heap.size + 1 + 1, 2, none⟩ = some (σ tT sv.length cT) ∧ w'.cell? ⟨w.heap.size + 1 + 1, 3, none⟩ = some (O ι off))) (late := []) (by kernel_rfl) ?_
  generalize W4.drew = W4d at SA F4d ⊢
  refine zd (i := 0) (v := γ #[σ sa ss.length cap]) rfl (by kernel_rfl) (by kernel_rfl) (fun _ _ _ h => by cases h.1) _ (by kernel_rfl) (by kernel_rfl) (Or.inl ⟨by rfl, ?_⟩) SA.out ?_
  ·rintro w' ⟨z0, z1, z2, z3, z4, z5, z6, z7, z8⟩
   go_simp
  simp only [aP, sT, sZ, sS]
  refine zd (i := 1) (v := γ #[σ sa ss.length cap]) rfl (by kernel_rfl) (by kernel_rfl) (fun _ _ _ h => by cases h.1) _ (by kernel_rfl) (by kernel_rfl) (Or.inl ⟨by rfl, ?_⟩) SA.out ?_
  ·rintro w' ⟨z0, z1, z2, z3, z4, z5, z6, z7, z8⟩
   go_simp
  simp only [aP, sT, sZ, sS]
  refine zd (i := 2) (v := γ #[O ι st, σ tS xs.length cS, σ tT sv.length cT, O ι off]) rfl (by kernel_rfl) (by kernel_rfl) (fun _ _ _ h => by cases h.1) _ (by kernel_rfl) (by kernel_rfl) (Or.inl ⟨by rfl, ?_⟩) SA.out ?_
  ·rintro w' ⟨z0, z1, z2, z3, z4, z5, z6, z7, z8⟩
   go_simp
  simp only [aP, sT, sZ, sS]
  refine zd (i := 4) (v := γ #[O ι st, σ tS xs.length cS, σ tT sv.length cT, O ι off]) rfl (by kernel_rfl) (by kernel_rfl) (fun _ _ _ h => by cases h.1) _ (by kernel_rfl) (by kernel_rfl) (Or.inl ⟨by rfl, ?_⟩) SA.out ?_
  ·rintro w' ⟨z0, z1, z2, z3, z4, z5, z6, z7, z8⟩
   go_simp
  simp only [aP, sT, sZ, sS]
  refine ze (i := 3) (by kernel_rfl) rfl (fun K hK => ?_)
  go_simp
  refine (ze3 F4d.out.sV st off HST.out.1 HST.out.2).mono ?_
  rintro e t1 ⟨rfl, x1⟩
  have F5 := hide (F4d.out.bel x1.bl)
  have HLK := hide (fun W (hh : P8 w W sa cap ss st off tS tT cS cT xs sv) => zt16 hh.sV st off ((ss.getD st.toNat s0).1) HST.out.1 HST.out.2 hh.iS hh.iT lx ls HWq.out hc)
  generalize (ss.getD st.toNat s0).1 = dd at HLK ⊢
  have S1 : Hid ((fun w' : World => w'.cell? ⟨w.heap.size, 0, none⟩ = some (σ sa ss.length cap) ∧ w'.cell? ⟨w.heap.size + 1, 0, none⟩ = some (O ι st) ∧ w'.cell? ⟨w.heap.size + 1, 1, none⟩ = some (σ tS xs.length cS) ∧ w'.cell? ⟨w.heap.size + 1, 2, none⟩ = some (σ tT sv.length cT) ∧ w'.cell? ⟨w.heap.size + 1, 3, none⟩ = some (O ι off) ∧ w'.cell? ⟨w.heap.size + 1 + 1, 0, none⟩ = some (O ι st) ∧ w'.cell? ⟨w.heap.size + 1 + 1, 1, none⟩ = some (σ tS xs.length cS) ∧ w'.cell? ⟨w.heap.size + 1 + 1, 2, none⟩ = some (σ tT sv.length cT) ∧ w'.cell? ⟨w.heap.size + 1 + 1, 3, none⟩ = some (O ι off)) t1) := ⟨F5.out.b4.cell 0 rfl, F5.out.b5.cell 0 rfl, F5.out.b5.cell 1 rfl, F5.out.b5.cell 2 rfl, F5.out.b5.cell 3 rfl, F5.out.b7.cell 0 rfl, F5.out.b7.cell 1 rfl, F5.out.b7.cell 2 rfl, F5.out.b7.cell 3 rfl⟩
  refine hK.out _ _ (fun _ => S1.out) ?_
  clear hK K
  try simp only [aP, sT, sZ, sS]
  clear x1
  refine ze (i := 5) (by kernel_rfl) rfl (fun K hK => ?_)
  go_simp
  refine (HLK.out _ F5.out).mono ?_
  rintro e t2 ⟨rfl, x2⟩
  have F6 := hide (F5.out.bel x2)
  have S2 : Hid ((fun w' : World => w'.cell? ⟨w.heap.size, 0, none⟩ = some (σ sa ss.length cap) ∧ w'.cell? ⟨w.heap.size + 1, 0, none⟩ = some (O ι st) ∧ w'.cell? ⟨w.heap.size + 1, 1, none⟩ = some (σ tS xs.length cS) ∧ w'.cell? ⟨w.heap.size + 1, 2, none⟩ = some (σ tT sv.length cT) ∧ w'.cell? ⟨w.heap.size + 1, 3, none⟩ = some (O ι off) ∧ w'.cell? ⟨w.heap.size + 1 + 1, 0, none⟩ = some (O ι st) ∧ w'.cell? ⟨w.heap.size + 1 + 1, 1, none⟩ = some (σ tS xs.length cS) ∧ w'.cell? ⟨w.heap.size + 1 + 1, 2, none⟩ = some (σ tT sv.length cT) ∧ w'.cell? ⟨w.heap.size + 1 + 1, 3, none⟩ = some (O ι off)) t2) := ⟨F6.out.b4.cell 0 rfl, F6.out.b5.cell 0 rfl, F6.out.b5.cell 1 rfl, F6.out.b5.cell 2 rfl, F6.out.b5.cell 3 rfl, F6.out.b7.cell 0 rfl, F6.out.b7.cell 1 rfl, F6.out.b7.cell 2 rfl, F6.out.b7.cell 3 rfl⟩
  refine hK.out _ _ (fun _ => S2.out) ?_
  clear hK K
  try simp only [aP, sT, sZ, sS]
  clear x2
  refine ze (i := 6) (by kernel_rfl) rfl (fun K hK => ?_)
  go_simp
  refine hK.out _ _ (fun _ => S2.out) ?_
  clear hK K
  try simp only [aP, sT, sZ, sS]
  refine zm (by kernel_rfl) ?_ _
  refine ⟨rfl, ?_⟩
  clear SA S1 S2 F4d F5 F4 HLK
  have hss0 : 0 < ss.length := by have := HST.out; omega
  have k4 := F6.out.b4.cell 0 rfl
  go_wp2_with fail
  refine (zs8 F6.out.sV hl hss0).mono ?_
  rintro e W7 ⟨g7, c7, cb7, rfl, _, x7⟩
  have F7 := hide ((F6.out.bel x7).bel ((Ext.refl W7).alloc #[σ (some ⟨g7, 0, none⟩) ss.length c7] 25).bl)
  have B13 : Hid (Bx (W7.alloc (χ #[σ (some ⟨g7, 0, none⟩) ss.length c7] 25)) W7.heap.size 25 [σ (some ⟨g7, 0, none⟩) ss.length c7]) := Bx.new W7 25 #[σ (some ⟨g7, 0, none⟩) ss.length c7] _ rfl
  clear x7 k4 F6
  go_wp2_with fail
  generalize W7.heap.size = k13 at B13 ⊢
  generalize W7.alloc (χ #[σ (some ⟨g7, 0, none⟩) ss.length c7] 25) = W8 at F7 B13 ⊢
  refine wp_loop_rounds 1 ?_
  rw [rounds_succ]
  have q13 := B13.out.cell 0 rfl
  have q80 := F7.out.b8.cell 0 rfl
  have q81 := F7.out.b8.cell 1 rfl
  have q8f := fun o => F7.out.b8.fz o
  have HBL := hide F7.out.bl
  go_wp2
  refine bodyPost_ret (v := γ #[O ι 0, σ (some ⟨g7, 0, none⟩) ss.length c7]) (by simp [results, Tryz.results8, go_sem, q80, q81]) rfl ⟨⟨_, rfl⟩, ?_⟩
  exact (HBL.out.setCell (p := ⟨w.heap.size + 1 + 1 + 1, 0, none⟩) (by show w.heap.size ≤ w.heap.size + 1 + 1 + 1; omega) _).setCell (p := ⟨w.heap.size + 1 + 1 + 1, 1, none⟩) (by show w.heap.size ≤ w.heap.size + 1 + 1 + 1; omega) _
theorem zx19 (w : World) (c : Int) (u : Value) : (Instr.field 36 (γ #[O ι c, u]) 0).run Tryz.prog w = .ok (O ι c) w := by
 simp [Instr.field, run_underlying Tryz.underlying36, run_underlying Tryz.underlying25, run_underlying Tryz.underlying2, go_sem, part, isAgg, asAgg]
attribute [local go_sem] zx19
def LawTp (w : World) (e : Ending) (w' : World) : Prop := e = .returned (.bool true) ∧ Bel w w'
theorem zf22 {w : World} {sc sm : Option Addr} {lc lm cc cm : Nat} (hc : Code w (σ sc lc cc) lc) (hm : Code w (σ sm lm cm) lm) (hl1 : lc ≤ 1048576) (hl2 : lm ≤ 1048576) :
  Calls Tryz.prog 3 #[σ sc lc cc, σ sm lm cm] w fun e w' => LawTp w e w' := by
 have d1 : decide ((1048576 : Int) < (lc : Int)) = false := decide_eq_false (by omega)
 have d2 : decide ((1048576 : Int) < (lm : Int)) = false := decide_eq_false (by omega)
 have HM := hide hm
 have HC := hide hc
 clear hc hm
 go_enter Tryz.func3, Tryz.ntmps3
 go_wp2_with fail
 refine (zh15 HC.out).mono ?_
 rintro e W1 ⟨sq, cq, L, opn, st, za, zb, o1, o2, off, sA, zp23, aA, aB, bA, bB, n1, n2, n3, n4, n5, n6, c1, c2, c3, c4, c5, c6, xs, ss, rfl, hE, b1⟩
 obtain ⟨_, _, _, _, e1, e2⟩ := hE.a.form
 have hn1 : n1 = xs.length := by simp only [Value.slice.injEq] at e1; exact e1.2.1
 have hn2 : n2 = ss.length := by simp only [Value.slice.injEq] at e2; exact e2.2.1
 clear e1 e2
 subst hn1 hn2
 have x3 : Ext W1 ((((W1.alloc (χ #[σ sq L.length cq] 25)).alloc (χ #[O ι za, σ aA n3 c3, σ aB n4 c4, O ι o1] 30)).alloc (χ #[O ι zb, σ bA n5 c5, σ bB n6 c6, O ι o2] 30)).alloc (χ #[O ι st, σ sA xs.length c1, σ zp23 ss.length c2, O ι off] 30)) := ((((Ext.refl W1).alloc _ _).alloc _ _).alloc _ _).alloc _ _
 have F3 : Hid (LS w ((((W1.alloc (χ #[σ sq L.length cq] 25)).alloc (χ #[O ι za, σ aA n3 c3, σ aB n4 c4, O ι o1] 30)).alloc (χ #[O ι zb, σ bA n5 c5, σ bB n6 c6, O ι o2] 30)).alloc (χ #[O ι st, σ sA xs.length c1, σ zp23 ss.length c2, O ι off] 30)) L (σ sq L.length cq) (σ sA xs.length c1) (σ zp23 ss.length c2) st off xs ss W1.heap.size (W1.heap.size + 1 + 1 + 1)) :=
  ⟨hE.dh.bel x3.bl, hE.dg, hE.a.bel x3.bl, (((Bx.new W1 25 #[σ sq L.length cq] _ rfl).alloc _).alloc _).alloc _, Bx.new (((W1.alloc (χ #[σ sq L.length cq] 25)).alloc (χ #[O ι za, σ aA n3 c3, σ aB n4 c4, O ι o1] 30)).alloc (χ #[O ι zb, σ bA n5 c5, σ bB n6 c6, O ι o2] 30)) 30 #[O ι st, σ sA xs.length c1, σ zp23 ss.length c2, O ι off] _ (by simp), Bel.tr b1 x3.bl, b1.size, by omega⟩
 have HDG := hide hE.dg
 clear x3 hE b1 HC d1 d2
 go_upto_region 4 with fail
 generalize W1.heap.size + 1 + 1 + 1 = k9 at *
 generalize W1.heap.size = k5 at *
 generalize ((((W1.alloc (χ #[σ sq L.length cq] 25)).alloc (χ #[O ι za, σ aA n3 c3, σ aB n4 c4, O ι o1] 30)).alloc (χ #[O ι zb, σ bA n5 c5, σ bB n6 c6, O ι o2] 30)).alloc (χ #[O ι st, σ sA xs.length c1, σ zp23 ss.length c2, O ι off] 30)) = W3 at *
 have hcnt := HDG.out.cnt
 generalize hGG : (vHeap (ssOf L) && (dcGoodA (ssOf L) st xs ss off)) = G
 have HGG := hide hGG
 generalize hRR : (dcWrV xs ss off) = R
 have HRR := hide hRR
 clear hGG hRR
 go_cut [55] (fun s wx => s = .bool (!G || !R || decide (64 < L.length + 2)) ∧ Bel W3 wx)
 case first =>
  as_aux_lemma =>
   have f5 := F3.out.b5.cell 0 rfl
   have f90 := F3.out.b9.cell 0 rfl
   have f91 := F3.out.b9.cell 1 rfl
   have f92 := F3.out.b9.cell 2 rfl
   have f93 := F3.out.b9.cell 3 rfl
   have hVA := hide (zx15 F3.out.dh.sv F3.out.dg.sg F3.out.dg.sl st (zy F3.out.ad.dv.a) (zy F3.out.ad.dv.c) off (by have := F3.out.ad.lx; omega) (by have := F3.out.ad.ls; omega))
   rw [HGG.out] at hVA
   go_wp2_with fail
   refine hVA.out.mono ?_
   rintro e W4 ⟨rfl, b4⟩
   have F4 := hide (F3.out.bel b4)
   have B4 := hide b4
   clear b4 f5 f90 f91 f92 f93 hVA
   cases G with
   | false =>
    go_wp2_with fail
    go_meet
    case rel => exact ⟨by simp, B4.out⟩
   | true =>
    have f5 := F4.out.b5.cell 0 rfl
    have f90 := F4.out.b9.cell 0 rfl
    have f91 := F4.out.b9.cell 1 rfl
    have f92 := F4.out.b9.cell 2 rfl
    have f93 := F4.out.b9.cell 3 rfl
    have hWR := hide (zu15 (zy F4.out.ad.dv.a) (zy F4.out.ad.dv.c) off (by have := F4.out.ad.lx; omega) (by have := F4.out.ad.ls; omega))
    rw [HRR.out] at hWR
    go_wp2_with fail
    refine hWR.out.mono ?_
    rintro e W5 ⟨rfl, b5⟩
    have F5 := hide (F4.out.bel b5)
    have B5 := hide (Bel.tr B4.out b5)
    clear b5 f5 f90 f91 f92 f93 hWR
    cases R with
    | false =>
     go_wp2_with fail
     go_meet
     case rel => exact ⟨by simp, B5.out⟩
    | true =>
     have f5 := F5.out.b5.cell 0 rfl
     go_wp2_with fail
     go_meet
     case rel => exact ⟨by simp; omega, B5.out⟩
 case rest =>
 obtain ⟨rfl, b4⟩ := hcut
 have F4 := hide (F3.out.bel b4)
 clear b4 F3
 cases hbad : (!G || !R || decide (64 < L.length + 2)) with
 | true =>
  as_aux_lemma =>
   clear hbad
   have f5 := F4.out.b5.cell 0 rfl
   have f90 := F4.out.b9.cell 0 rfl
   have f91 := F4.out.b9.cell 1 rfl
   have f92 := F4.out.b9.cell 2 rfl
   have f93 := F4.out.b9.cell 3 rfl
   have x5 : Bel wc (wc.alloc (χ #[] 2)) := ((Ext.refl wc).alloc #[] 2).bl
   have F5 := hide (F4.out.bel x5)
   have HPUT := hide (ze14 (ix := []) (Y := []) (bi := wc.heap.size) (oi := 0) (ci := 0) F5.out.dh.sv F5.out.dg.sg F5.out.dg.sl F5.out.av F5.out.av (fun j hj => by simp at hj) (by simp) (fun _ h => absurd rfl h) (fun _ j hj => by simp at hj))
   have g90 := F5.out.b9.cell 0 rfl
   have g91 := F5.out.b9.cell 1 rfl
   have g92 := F5.out.b9.cell 2 rfl
   have g93 := F5.out.b9.cell 3 rfl
   clear x5
   go_wp2_with fail
   refine HPUT.out.mono ?_
   rintro e W6 ⟨u6, rfl, b6, _⟩
   have F6 := hide (F5.out.bel b6)
   clear b6 HPUT F5 f5 f90 f91 f92 f93 g90 g91 g92 g93
   generalize hpc : putCd (ssOf L) ⟨st, xs, ss, off⟩ ⟨st, xs, ss, off⟩ [] = pc
   by_cases hp0 : pc = 0
   ·subst hp0
    obtain ⟨q1, q2, q3, q4, q5⟩ := zc20 hpc
    have f5 := F6.out.b5.cell 0 rfl
    have f90 := F6.out.b9.cell 0 rfl
    have f91 := F6.out.b9.cell 1 rfl
    have f92 := F6.out.b9.cell 2 rfl
    have f93 := F6.out.b9.cell 3 rfl
    have x7 : Bel W6 (W6.alloc (χ #[] 2)) := ((Ext.refl W6).alloc #[] 2).bl
    have F7 := hide (F6.out.bel x7)
    have HSP := hide (zc22 F7.out.dh.sv F7.out.dg.sg F7.out.dg.sl st off (zy F7.out.ad.dv.a) (zy F7.out.ad.dv.c) (by have := F7.out.ad.lx; omega) (by have := F7.out.ad.ls; omega) q1 q2 q3 q4 q5 (some ⟨W6.heap.size, 0, none⟩) 0)
    have g90 := F7.out.b9.cell 0 rfl
    have g91 := F7.out.b9.cell 1 rfl
    have g92 := F7.out.b9.cell 2 rfl
    have g93 := F7.out.b9.cell 3 rfl
    clear x7 q1 q2 q3 q4 q5 hpc
    go_wp2_with fail
    refine HSP.out.mono ?_
    rintro e W8 ⟨⟨hp8, rfl⟩, b8⟩
    have B8 := hide (Bel.tr F7.out.bl b8)
    clear b8 HSP f5 f90 f91 f92 f93 g90 g91 g92 g93
    go_wp2
    go_ret
    exact ⟨rfl, B8.out⟩
   ·have hne : (pc == 0) = false := by rw [beq_eq_false_iff_ne]; exact hp0
    have B6 := hide F6.out.bl
    clear F6 hpc
    go_wp2
    go_ret
    exact ⟨rfl, B6.out⟩
 | false =>
  obtain ⟨hG1, hR1, hk2⟩ : G = true ∧ R = true ∧ L.length + 2 ≤ 64 := by
   cases G <;> cases R <;> simp at hbad
   exact ⟨rfl, rfl, by omega⟩
  have hpur : vHeap (ssOf L) = true ∧ GoodA (ssOf L) st xs ss off := by
   have q := HGG.out.trans hG1
   rw [Bool.and_eq_true] at q
   exact ⟨q.1, of_decide_eq_true q.2⟩
  have hwrv : WrV xs ss off := of_decide_eq_true (HRR.out.trans hR1)
  clear hbad hG1 hR1 HGG HRR
  clear G R
  obtain ⟨hvh, hga⟩ := hpur
  have hst := hga.1
  rw [ze2] at hst
  obtain ⟨m, rfl⟩ : ∃ m : Nat, st = (m : Int) := ⟨st.toNat, by omega⟩
  have hml : m < L.length := by omega
  obtain ⟨t, ht⟩ : ∃ t, L[m]? = some t := ⟨_, List.getElem?_eq_getElem hml⟩
  obtain ⟨g, cap', eg, q0, q1, _, _, _⟩ := F4.out.dh.at ht
  simp only [Value.slice.injEq] at eg
  obtain ⟨rfl, _, rfl⟩ := eg
  have HQ0 := hide q0
  clear q1
  have hm0 : (0 : Int) ≤ (m : Int) := Int.natCast_nonneg _
  have hm1 : (m : Int) < (L.length : Int) := by omega
  have HDT : Hid (t.1 = dtA (ssOf L) ⟨(m : Int), xs, ss, off⟩) := by
   show _ = _
   unfold dtA
   rw [Int.toNat_natCast, zg9 L m t ht]
  have HTT := hide ht
  have HVH := hide hvh
  have HGA := hide hga
  have HWV := hide hwrv
  have hprod : 0 ≤ prod xs ∧ prod xs ≤ 4096 := by
   have h1 := zc1 (fun n hn => (zx hga.2.1.1 n hn).1)
   have h2 := hga.2.1.1.2.2
   exact ⟨by omega, h2⟩
  have f5 := F4.out.b5.cell 0 rfl
  have f90 := F4.out.b9.cell 0 rfl
  have f91 := F4.out.b9.cell 1 rfl
  have HCN := hide (zn7 (zy F4.out.ad.dv.a) hga.2.1.1.1 hga.2.1.1.2.1)
  have HDV : Hid (isDtB t.1 = true) := by
   have q := ((zk2 _).1 (((zz2 _).1 hvh).2 m (by rw [ze2]; omega))).1
   rw [zg9 L m t ht] at q
   exact q
  obtain ⟨N, hNN⟩ : ∃ N, prod xs = N := ⟨_, rfl⟩
  rw [hNN] at hprod HCN
  have HNN := hide hNN
  clear ht hvh hga hwrv hst hml hNN
  go_wp2_with fail
  refine HCN.out.mono ?_
  rintro e wc ⟨rfl, rfl⟩
  clear HCN
  go_wp2_with fail
  have xb : Bel wc (wc.alloc (χ #[] 2)) := ((Ext.refl wc).alloc #[] 2).bl
  have HOI : Hid ((wc.alloc (χ #[] 2)).ownsRow wc.heap.size 2 1 (σ (some ⟨wc.heap.size, 0, none⟩) 0 0) 0 []) := World.ownsRow_made (base := wc.heap.size) (e := 2) (size := 1) wc #[] 0 (Nat.le_refl _) (by unfold maxLen; omega) (by simp)
  have HXB := hide xb
  clear xb f5 f90 f91 q0
  refine (zd5 (zm5 HM.out (Bel.tr F4.out.bl HXB.out)) hl2 0 (by omega) 3 (by omega)).mono ?_
  rintro e W6 ⟨r6, rfl, hr6, x6⟩
  obtain ⟨s6, rfl⟩ : ∃ s : Nat, r6 = (s : Int) := ⟨r6.toNat, by omega⟩
  have HB6 := hide (Bel.tr HXB.out x6.bl)
  have HO6 : Hid (W6.ownsRow wc.heap.size 2 1 (σ (some ⟨wc.heap.size, 0, none⟩) 0 0) 0 []) := HOI.out.kept (row := none) ⟨Below.os x6.bl, Below.tape x6.bl, Below.output x6.bl, Below.size x6.bl, fun k hk _ => Below.block x6.bl k hk⟩ (zt2 _)
  have hws : IntKind.i64.wrap (1 + (s6 : Int)) = 1 + (s6 : Int) := by rw [IntKind.wrap_i64]; omega
  clear x6 HXB HOI
  go_wp2_with fail
  refine (zd5 (zm5 HM.out (Bel.tr F4.out.bl HB6.out)) hl2 1 (by omega) 3 (by omega)).mono ?_
  rintro e W7 ⟨r7, rfl, hr7, x7⟩
  obtain ⟨i7, rfl⟩ : ∃ s : Nat, r7 = (s : Int) := ⟨r7.toNat, by omega⟩
  have HB7 := hide (Bel.tr HB6.out x7.bl)
  have HO7 : Hid (W7.ownsRow wc.heap.size 2 1 (σ (some ⟨wc.heap.size, 0, none⟩) 0 0) 0 []) := HO6.out.kept (row := none) ⟨Below.os x7.bl, Below.tape x7.bl, Below.output x7.bl, Below.size x7.bl, fun k hk _ => Below.block x7.bl k hk⟩ (zt2 _)
  clear x7 HB6 HO6
  go_upto_block 0 with fail
  go_cut [12, 14] (fun s12 s14 wr => ∃ ix : List Int, wr.ownsRow wc.heap.size 2 1 s12 ix.length (ix.map (Value.int .i64)) ∧ Bel wc wr ∧ IxI ix 45 N)
  case first =>
   as_aux_lemma =>
    obtain ⟨j2, hj2, hz0, hz1, hz2⟩ := info_parts zy7
    go_wp2_with fail
    go_loopw [12, 14] (fun s12 s14 wr => ∃ (i : Nat) (v : Value) (ix : List Int), v = s12 ∧ s14 = O ι i ∧ i ≤ 45 ∧ wr.ownsRow wc.heap.size 2 1 v ix.length (ix.map (Value.int .i64)) ∧ Bel wc wr ∧ IxI ix i N) (fun s12 s14 _ => 60 - (intOf s14).toNat)
    case atStart => exact ⟨i7, _, [], rfl, rfl, by omega, HO7.out, HB7.out, IxI.nil _ _⟩
    case round =>
     obtain ⟨i, v12, ix, rfl, rfl, hi45, hOw, hBw, hIx⟩ := hrel
     have HOw := hide hOw
     have HBw := hide hBw
     have HIx := hide hIx
     clear hOw hBw hIx HO7 HB7
     obtain ⟨zn23, cI, rfl⟩ : ∃ zn23 cI, v12 = σ zn23 ix.length cI := by
      obtain ⟨sa, ca, e, _⟩ := zh HOw.out
      exact ⟨sa, ca, e⟩
     have hixl := HIx.out.len
     by_cases hin : (i : Int) < N ∧ (i : Int) < 40
     ·obtain ⟨hi1, hi2⟩ := hin
      have hwi : IntKind.i64.wrap ((i : Int) + 2) = (i : Int) + 2 := by rw [IntKind.wrap_i64]; omega
      have hwn : IntKind.i64.wrap ((i : Int) - N) = (i : Int) - N := by rw [IntKind.wrap_i64]; omega
      have hwt : IntKind.i64.wrap ((i : Int) + (1 + (s6 : Int))) = (i : Int) + (1 + (s6 : Int)) := by rw [IntKind.wrap_i64]; omega
      have HAT := hide (zd5 (zm5 HM.out (Bel.tr F4.out.bl HBw.out)) hl2 (i + 2) (by omega) 2 (by omega))
      rw [show ((i + 2 : Nat) : Int) = (i : Int) + 2 by omega] at HAT
      go_wp2_with fail
      refine HAT.out.mono ?_
      rintro e W8 ⟨r8, rfl, hr8, x8⟩
      have HO8 : Hid (W8.ownsRow wc.heap.size 2 1 (σ zn23 ix.length cI) ix.length (ix.map (Value.int .i64))) := HOw.out.kept (row := none) ⟨Below.os x8.bl, Below.tape x8.bl, Below.output x8.bl, Below.size x8.bl, fun k hk _ => Below.block x8.bl k hk⟩ (zt2 _)
      have HB8 := hide (Bel.tr HBw.out x8.bl)
      have HS8 : Hid (wc.heap.size ≤ W8.heap.size) := HB8.out.size
      have HOB : Hid (∀ j, (Value.slice zn23 ix.length cI).ownBlock = some j → wc.heap.size ≤ j) := fun j hj => (HO8.out.lt j hj).1
      clear x8 HOw HBw HAT
      by_cases hr0 : r8 = 0
      ·subst hr0
       have HNW : Hid (∀ q u, [Value.int .i64 ((i : Int))][q]? = some u → (W8.alloc (χ #[O ι ((i : Int))] 2)).cell? ((⟨W8.heap.size, 0, none⟩ : Addr).add q) = some u) := fun q u hq => by
        rw [Addr.add_lit, Nat.zero_add, zg W8 _ 2 _ rfl q]
        simpa using hq
       have HB9 : Hid (Bel wc (W8.alloc (χ #[O ι ((i : Int))] 2))) := Bel.tr HB8.out ((Ext.refl W8).alloc _ _).bl
       go_wp2_with (at_builtin; go_loud ((refine wpList_append_lies _ rfl _ _ 26 rfl wc.heap.size 2 j2 (O ι 0) 1 8 Tryz.underlying26 hj2 hz0 hz1 hz2 rfl (by decide) (σ zn23 ix.length cI) ix.length (ix.map (Value.int .i64)) rfl (HO8.out.alloc _) ⟨W8.heap.size, 0, none⟩ 1 1 [O ι ((i : Int))] rfl rfl HNW.out (by simp [Value.oneCell']) (by omega) (by unfold maxLen; omega) (by omega) (by have := HS8.out; simp; omega) (W8.heap.size + 1) (by simp) ?_); intro g9 c9 w9 hown9 hgrow9 hat9 hlt9; have HO9 := hide hown9; have HC9 := hide (Below.grown HB9.out hgrow9 (by have := HS8.out; simp; omega) (fun j hj => HOB.out j hj)); clear hown9 hgrow9 hat9 hlt9))
       go_roundw
       ·refine ⟨i + (1 + s6), _, ix ++ [(i : Int)], rfl, by go_num, by omega, ?_, HC9.out, HIx.out.app hi1 (Or.inl rfl) _ (by omega)⟩
        rw [List.length_append, List.map_append]
        exact HO9.out
       ·simp [intOf]; omega
      ·have hrb : (r8 == 0) = false := by rw [beq_eq_false_iff_ne]; exact hr0
       have HNW : Hid (∀ q u, [Value.int .i64 ((i : Int) - N)][q]? = some u → (W8.alloc (χ #[O ι ((i : Int) - N)] 2)).cell? ((⟨W8.heap.size, 0, none⟩ : Addr).add q) = some u) := fun q u hq => by
        rw [Addr.add_lit, Nat.zero_add, zg W8 _ 2 _ rfl q]
        simpa using hq
       have HB9 : Hid (Bel wc (W8.alloc (χ #[O ι ((i : Int) - N)] 2))) := Bel.tr HB8.out ((Ext.refl W8).alloc _ _).bl
       go_wp2_with (at_builtin; go_loud ((refine wpList_append_lies _ rfl _ _ 26 rfl wc.heap.size 2 j2 (O ι 0) 1 8 Tryz.underlying26 hj2 hz0 hz1 hz2 rfl (by decide) (σ zn23 ix.length cI) ix.length (ix.map (Value.int .i64)) rfl (HO8.out.alloc _) ⟨W8.heap.size, 0, none⟩ 1 1 [O ι ((i : Int) - N)] rfl rfl HNW.out (by simp [Value.oneCell']) (by omega) (by unfold maxLen; omega) (by omega) (by have := HS8.out; simp; omega) (W8.heap.size + 1) (by simp) ?_); intro g9 c9 w9 hown9 hgrow9 hat9 hlt9; have HO9 := hide hown9; have HC9 := hide (Below.grown HB9.out hgrow9 (by have := HS8.out; simp; omega) (fun j hj => HOB.out j hj)); clear hown9 hgrow9 hat9 hlt9))
       go_roundw
       ·refine ⟨i + (1 + s6), _, ix ++ [(i : Int) - N], rfl, by go_num, by omega, ?_, HC9.out, HIx.out.app hi1 (Or.inr rfl) _ (by omega)⟩
        rw [List.length_append, List.map_append]
        exact HO9.out
       ·simp [intOf]; omega
     ·go_upto_region 11 with fail
      go_cut [95] (fun s wx => s = .bool false ∧ wr = wx)
      case first =>
       by_cases hi1 : (i : Int) < N
       ·have hi2 : decide ((i : Int) < 40) = false := decide_eq_false (fun q => hin ⟨hi1, q⟩)
        have hi3 : decide ((i : Int) < N) = true := decide_eq_true hi1
        go_wp2_with fail
        go_meet
        case rel => exact ⟨rfl, rfl⟩
       ·have hi3 : decide ((i : Int) < N) = false := decide_eq_false hi1
        go_wp2_with fail
        go_meet
        case rel => exact ⟨rfl, rfl⟩
      case rest =>
      obtain ⟨rfl, rfl⟩ := hcut
      go_wp2_with fail
      go_meet
      case rel => exact ⟨ix, HOw.out, HBw.out, HIx.out.more hi45⟩
  case rest =>
  obtain ⟨ix, hOw, hBw, hIx⟩ := hcut
  have HIx := hide hIx
  have hm40 : ix.length ≤ 45 := hIx.len
  obtain ⟨zn23, cI, rfl, _⟩ := zh hOw
  have X0 := hide (LX.of F4.out hBw hOw)
  have HDGL := hide F4.out.dg
  clear hOw hBw hIx HB7 HO7 F4
  go_upto_region 17 with fail
  generalize wc.heap.size = ks at X0 ⊢
  generalize wc.alloc (χ #[O ι ix.length] 2) = W16 at X0 ⊢
  have HCGr : Hid (CG (List.replicate ix.length k0)) := fun c hc => by
   rw [List.eq_of_mem_replicate hc]
   exact ⟨⟨by decide, by decide⟩, by show (0:Nat) < _; decide, by show (0:Nat) < _; decide⟩
  go_cut [16] (fun s16 wx => ∃ (sq1 sA1 sB1 : Option Addr) (cq1 cA1 cB1 kv k16 : Nat), s16 = π (some ⟨k16, 0, none⟩) ∧ LX w wx (L ++ [(t.1, Value.slice (some ⟨kv, 0, none⟩) ix.length ix.length, (List.replicate ix.length k0))]) (σ sq1 (L.length + 1) cq1) (σ sq1 (L.length + 1) cq1) (σ sA xs.length c1) (σ zp23 ss.length c2) (m : Int) off xs ss k5 k9 (σ zn23 ix.length cI) ix ks [(k16, Value.slice sA1 1 cA1, Value.slice sB1 1 cB1, (L.length : Int))])
  case first =>
   as_aux_lemma =>
    have f5 := X0.out.b5.cell 0 rfl
    go_wp2_with fail
    refine (zz8 (m := ix.length) X0.out.dh X0.out.bl.size (by omega) X0.out.ij (by omega) t.1).mono ?_
    rintro e W17 ⟨sq1, sA1, sB1, cq1, cA1, cB1, kv, rfl, hD1, hV1, hg1⟩
    have X1 := hide (X0.out.dense hD1 (X0.out.dg.app HCGr.out (by simp; omega) (by omega)) hg1)
    have V1 := hide hV1
    have HS1 : Hid (w.heap.size ≤ W16.heap.size) := X0.out.bl.size
    have e1 := X1.out.bel ((Ext.refl W17).alloc #[O ι 0, σ none 0 0, σ none 0 0, O ι 0] 30).bl
    have g5 := e1.b5.cell 0 rfl
    have g5z := e1.b5.fz 0
    have e2 := X1.out.new5 (σ sq1 (L.length + 1) cq1)
    have h0 := e2.cell 0 rfl
    have h1 := e2.cell 1 rfl
    have h2 := e2.cell 2 rfl
    have h3 := e2.cell 3 rfl
    have hz0' := e2.fz 0
    have hz1' := e2.fz 1
    have hz2' := e2.fz 2
    have hz3' := e2.fz 3
    clear hD1 hV1 hg1 X0 f5 e1 e2
    go_wp2_with fail
    go_meet
    case rel => exact ⟨sq1, sA1, sB1, cq1, cA1, cB1, kv, _, rfl, X1.out.step (σ sq1 (L.length + 1) cq1) (s := (L.length : Int)) HS1.out V1.out⟩
  case rest =>
  obtain ⟨sq1, sA1, sB1, cq1, cA1, cB1, kv, k16, rfl, hX1⟩ := hcut
  have X2 := hide hX1
  clear hX1 X0
  go_upto_region 18 with fail
  go_cut [17] (fun s17 wx => ∃ (sq2 sA2 sB2 : Option Addr) (cq2 cA2 cB2 ko k17 : Nat), s17 = π (some ⟨k17, 0, none⟩) ∧ LX w wx ((L ++ [(t.1, Value.slice (some ⟨kv, 0, none⟩) ix.length ix.length, (List.replicate ix.length k0))]) ++ [(t.1, Value.slice (some ⟨ko, 0, none⟩) ix.length ix.length, (List.replicate ix.length k0))]) (σ sq2 (L.length + 1 + 1) cq2) (σ sq2 (L.length + 1 + 1) cq2) (σ sA xs.length c1) (σ zp23 ss.length c2) (m : Int) off xs ss k5 k9 (σ zn23 ix.length cI) ix ks [(k16, Value.slice sA1 1 cA1, Value.slice sB1 1 cB1, (L.length : Int)), (k17, Value.slice sA2 1 cA2, Value.slice sB2 1 cB2, ((L.length + 1 : Nat) : Int))])
  case first =>
   as_aux_lemma =>
    have f5 := X2.out.b5.cell 0 rfl
    go_wp2_with fail
    refine (zz8 (m := ix.length) X2.out.dh X2.out.bl.size (by simp; omega) X2.out.ij (by omega) t.1).mono ?_
    rintro e W19 ⟨sq2, sA2, sB2, cq2, cA2, cB2, ko, rfl, hD2, hV2, hg2⟩
    have hl1 : (L ++ [(t.1, Value.slice (some ⟨kv, 0, none⟩) ix.length ix.length, List.replicate ix.length k0)]).length = L.length + 1 := by simp
    rw [hl1] at hD2 ⊢
    have X3 := hide (X2.out.dense hD2 (X2.out.dg.app HCGr.out (by simp; omega) (by omega)) hg2)
    have V3 := hide hV2
    have HS3 : Hid (w.heap.size ≤ _) := X2.out.bl.size
    have e1 := X3.out.bel ((Ext.refl W19).alloc #[O ι 0, σ none 0 0, σ none 0 0, O ι 0] 30).bl
    have g5 := e1.b5.cell 0 rfl
    have g5z := e1.b5.fz 0
    have e2 := X3.out.new5 (σ sq2 (L.length + 1 + 1) cq2)
    have h0 := e2.cell 0 rfl
    have h1 := e2.cell 1 rfl
    have h2 := e2.cell 2 rfl
    have h3 := e2.cell 3 rfl
    have hz0' := e2.fz 0
    have hz1' := e2.fz 1
    have hz2' := e2.fz 2
    have hz3' := e2.fz 3
    clear hD2 hV2 hg2 X2 f5 e1 e2 hl1
    generalize hll : ((L.length + 1 : Nat) : Int) = l1
    go_wp2_with fail
    go_meet
    case rel =>
     subst hll
     exact ⟨sq2, sA2, sB2, cq2, cA2, cB2, ko, _, rfl, X3.out.step (σ sq2 (L.length + 1 + 1) cq2) (s := ((L.length + 1 : Nat) : Int)) HS3.out V3.out⟩
  case rest =>
  obtain ⟨sq2, sA2, sB2, cq2, cA2, cB2, ko, k17, rfl, hX4⟩ := hcut
  have X4 := hide hX4
  clear hX4 X2
  have f5 := X4.out.b5.cell 0 rfl
  have hwl : IntKind.i64.wrap (((L.length + 1 + 1 : Nat) : Int) - 2) = (L.length : Int) := by rw [IntKind.wrap_i64]; omega
  have hwl' : IntKind.i64.wrap ((L.length : Int) + 1 + 1 - 2) = (L.length : Int) := by rw [IntKind.wrap_i64]; omega
  have hix0 : (0 : Int) ≤ (ix.length : Int) := Int.natCast_nonneg _
  have HOK0 : Hid (∀ j, j < ix.length → OkC t.1 ((List.replicate ix.length k0).getD j k0)) := fun j hj => by
   rw [show (List.replicate ix.length k0).getD j k0 = k0 by simp [List.getD_eq_getElem?_getD, List.getElem?_replicate, hj]]
   exact ⟨⟨by decide, by decide⟩, by show (0:Nat) < _; decide, by show (0:Nat) < _; decide, zd14 HDV.out⟩
  go_upto_block 2 with fail
  clear f5 hwl hwl' HCGr
  go_cut [19, 20] (fun s19 s20 wr => ∃ X : List C3, X.length = ix.length ∧ (∀ j, j < ix.length → OkC t.1 (X.getD j k0)) ∧ LX w wr ((L ++ [(t.1, Value.slice (some ⟨kv, 0, none⟩) ix.length ix.length, X)]) ++ [(t.1, Value.slice (some ⟨ko, 0, none⟩) ix.length ix.length, (List.replicate ix.length k0))]) (σ sq2 (L.length + 1 + 1) cq2) (σ sq2 (L.length + 1 + 1) cq2) (σ sA xs.length c1) (σ zp23 ss.length c2) (m : Int) off xs ss k5 k9 (σ zn23 ix.length cI) ix ks [(k16, Value.slice sA1 1 cA1, Value.slice sB1 1 cB1, (L.length : Int)), (k17, Value.slice sA2 1 cA2, Value.slice sB2 1 cB2, ((L.length + 1 : Nat) : Int))])
  case first =>
   as_aux_lemma =>
    go_wp2_with fail
    go_loopw [19, 20] (fun s19 s20 wr => ∃ (q : Nat) (X : List C3), s19 = O ι q ∧ q ≤ ix.length ∧ X.length = ix.length ∧ (∀ j, j < ix.length → OkC t.1 (X.getD j k0)) ∧ LX w wr ((L ++ [(t.1, Value.slice (some ⟨kv, 0, none⟩) ix.length ix.length, X)]) ++ [(t.1, Value.slice (some ⟨ko, 0, none⟩) ix.length ix.length, (List.replicate ix.length k0))]) (σ sq2 (L.length + 1 + 1) cq2) (σ sq2 (L.length + 1 + 1) cq2) (σ sA xs.length c1) (σ zp23 ss.length c2) (m : Int) off xs ss k5 k9 (σ zn23 ix.length cI) ix ks [(k16, Value.slice sA1 1 cA1, Value.slice sB1 1 cB1, (L.length : Int)), (k17, Value.slice sA2 1 cA2, Value.slice sB2 1 cB2, ((L.length + 1 : Nat) : Int))]) (fun s19 s20 _ => ix.length - (intOf s19).toNat)
    case atStart => exact ⟨0, _, rfl, by omega, by simp, HOK0.out, X4.out⟩
    case round =>
     obtain ⟨q, X, rfl, hq, hXl, hXo, hX⟩ := hrel
     have XW := hide hX
     have HXo := hide hXo
     clear hX hXo X4 HOK0
     by_cases hqn : q < ix.length
     ·have hwi : IntKind.i64.wrap ((q : Int) + 5) = (q : Int) + 5 := by rw [IntKind.wrap_i64]; omega
      have hwj : IntKind.i64.wrap ((q : Int) + 1) = (q : Int) + 1 := by rw [IntKind.wrap_i64]; omega
      have hq0 : (0 : Int) ≤ (q : Int) := Int.natCast_nonneg _
      have hq1 : (q : Int) < (ix.length : Int) := by omega
      go_upto_region 23 with fail
      go_cut [20] (fun s20 wx => ∃ (k20 : Nat) (r8 : Int), s20 = π (some ⟨k20, 0, none⟩) ∧ 0 ≤ r8 ∧ r8 < 2 ∧ Bx wx k20 47 [O ι r8, .float .f64 0, .float .f64 0] ∧ wr.heap.size ≤ k20 ∧ Bel wr wx)
      case first =>
       as_aux_lemma =>
        have HAT := hide (zd5 (zm5 HM.out XW.out.bl) hl2 (q + 5) (by omega) 2 (by omega))
        rw [show ((q + 5 : Nat) : Int) = (q : Int) + 5 by omega] at HAT
        go_wp2_with fail
        refine HAT.out.mono ?_
        rintro e W8 ⟨r8, rfl, hr8, x8⟩
        have BW := hide (Bel.tr x8.bl ((Ext.refl W8).alloc #[O ι r8, .float .f64 0, .float .f64 0] 47).bl)
        have HS8 : Hid (wr.heap.size ≤ W8.heap.size) := x8.bl.size
        have HBX : Hid (Bx (W8.alloc (χ #[O ι r8, .float .f64 0, .float .f64 0] 47)) W8.heap.size 47 [O ι r8, .float .f64 0, .float .f64 0]) := Bx.new W8 47 #[O ι r8, .float .f64 0, .float .f64 0] _ rfl
        have HW8 := hide (Bel.tr XW.out.bl BW.out)
        clear x8 HAT
        go_wp2_with fail
        go_meet
        case rel => exact ⟨_, r8, rfl, hr8.1, hr8.2, HBX.out, HS8.out, BW.out⟩
      case rest =>
       obtain ⟨k20, r8, rfl, hr80, hr81, hbx, hk20, hbw⟩ := hcut
       have BX := hide hbx
       have BW := hide hbw
       have HK20 := hide hk20
       clear hbx hbw hk20
       go_upto_if 147 with fail
       go_cut [] (fun wx => ∃ (c : C3), Bx wx k20 47 [O ι c.1, .float .f64 c.2.1, .float .f64 c.2.2] ∧ OkC t.1 c ∧ Bel wr wx)
       case first =>
        as_aux_lemma =>
         by_cases hd7 : (7 : Int) ≤ t.1
         ·have hd : decide ((7 : Int) ≤ t.1) = true := decide_eq_true hd7
          have HAT := hide (zd5 (zm5 HM.out (Bel.tr XW.out.bl BW.out)) hl2 (q + 5) (by omega) 90 (by omega))
          rw [show ((q + 5 : Nat) : Int) = (q : Int) + 5 by omega] at HAT
          go_wp2_with fail
          refine HAT.out.mono ?_
          rintro e W10 ⟨r9, rfl, hr9, x10⟩
          obtain ⟨r, rfl⟩ : ∃ r : Nat, r9 = (r : Int) := ⟨r9.toNat, by omega⟩
          have hr90 : r < 90 := by omega
          have hfl := zw19 Tryz.prog W10 r hr90
          have B10 := hide (Bel.tr BW.out x10.bl)
          have BB := hide (BX.out.bel x10.bl)
          have b0 := BB.out.cell 0 rfl
          have b1 := BB.out.cell 1 rfl
          have b2 := BB.out.cell 2 rfl
          have bz0 := BB.out.fz 0
          have bz1 := BB.out.fz 1
          have bz2 := BB.out.fz 2
          have HOKC := hide (zb21 hd7 HDV.out r hr90)
          have BC : Hid (Bx (((W10.setCell ⟨k20, 0, none⟩ (O ι 0)).setCell ⟨k20, 1, none⟩ (.float .f64 (flR r))).setCell ⟨k20, 2, none⟩ (.float .f64 0)) k20 47 [O ι 0, .float .f64 (flR r), .float .f64 0]) := by
           refine hide ?_
           have := ((BB.out.set 0 (O ι 0)).set 1 (.float .f64 (flR r))).set 2 (.float .f64 0)
           simpa only [List.set_cons_zero, List.set_cons_succ] using this
          have B11 := hide (((B10.out.setCell (p := ⟨k20, 0, none⟩) HK20.out (O ι 0)).setCell (p := ⟨k20, 1, none⟩) HK20.out (.float .f64 (flR r))).setCell (p := ⟨k20, 2, none⟩) HK20.out (.float .f64 0))
          clear x10 HAT hr9 BW B10
          go_wp2_with fail
          go_meet
          case rel => exact ⟨(0, flR r, 0), BC.out, HOKC.out, B11.out⟩
         ·have hd : decide ((7 : Int) ≤ t.1) = false := decide_eq_false hd7
          have HOKC := hide (zw20 hd7 HDV.out r8 ⟨hr80, hr81⟩)
          go_wp2_with fail
          go_meet
          case rel => exact ⟨(r8, 0, 0), BX.out, HOKC.out, BW.out⟩
       case rest =>
        obtain ⟨⟨ci, cf, cg⟩, hbx, hok, hbw⟩ := hcut
        have BC := hide hbx
        have HOKC := hide hok
        have X11 := hide (XW.out.bel hbw)
        clear hbx hok hbw BX BW HK20 XW hr80 hr81
        simp only at BC
        obtain ⟨gs, cgs, egs, jk1, q1, jk2, jk3, jk4⟩ := X11.out.dh.at zv12
        clear jk1 jk2 jk3 jk4
        simp only [Value.slice.injEq] at egs
        obtain ⟨rfl, jk5, rfl⟩ := egs
        clear jk5
        have hrw := X11.out.dh.cel _ _ zv12
        simp only at hrw q1
        rw [← hXl] at hrw
        obtain ⟨⟨y0, e0⟩, ⟨y1, e1⟩, ⟨y2, e2⟩, efz⟩ := zb18 hrw q (by omega)
        have z0 := efz (q * 3)
        have z1 := efz (q * 3 + 1)
        have z2 := efz (q * 3 + 2)
        have hl0 : (0 : Int) ≤ (L.length : Int) := Int.natCast_nonneg _
        have hl3 : (L.length : Int) < ((L.length : Int) + 1 + 1) := by omega
        have X12 := hide (X11.out.bel ((Ext.refl wc).drew).bl)
        have XC := hide (LX.cell X12.out (q := q) (x := (ci, cf, cg)) (by rw [hXl]; exact zv12) (by omega) (zd18 HOKC.out))
        rw [hXl, zp19] at XC
        have HOK2 := hide (zi20 (q := q) hXl HXo.out HOKC.out)
        have HXL := hide hXl
        have f5 := X12.out.b5.cell 0 rfl
        have c0 := BC.out.cell 0 rfl
        have c1' := BC.out.cell 1 rfl
        have c2' := BC.out.cell 2 rfl
        clear hrw efz X11 X12 BC HXo hXl
        go_wp2_with fail
        have SA : Hid ((fun w' : World => w'.cell? ⟨k5, 0, none⟩ = some (σ (some ⟨gs, 0, none⟩) (L.length + 1 + 1) cq2) ∧ w'.cell? ⟨gs, L.length * 2 + 1, none⟩ = some (σ (some ⟨kv, 0, none⟩) ix.length ix.length) ∧ w'.cell? ⟨k20, 0, none⟩ = some (O ι ci) ∧ w'.cell? ⟨k20, 1, none⟩ = some (.float .f64 cf) ∧ w'.cell? ⟨k20, 2, none⟩ = some (.float .f64 cg) ∧ w'.cell? ⟨kv, q * 3, none⟩ = some y0 ∧ w'.cell? ⟨kv, q * 3 + 1, none⟩ = some y1 ∧ w'.cell? ⟨kv, q * 3 + 2, none⟩ = some y2) wc.drew) := ⟨f5, q1, c0, c1', c2', e0, e1, e2⟩
        refine zv (S := (fun w' : World => w'.cell? ⟨k5, 0, none⟩ = some (σ (some ⟨gs, 0, none⟩) (L.length + 1 + 1) cq2) ∧ w'.cell? ⟨gs, L.length * 2 + 1, none⟩ = some (σ (some ⟨kv, 0, none⟩) ix.length ix.length) ∧ w'.cell? ⟨k20, 0, none⟩ = some (O ι ci) ∧ w'.cell? ⟨k20, 1, none⟩ = some (.float .f64 cf) ∧ w'.cell? ⟨k20, 2, none⟩ = some (.float .f64 cg) ∧ w'.cell? ⟨kv, q * 3, none⟩ = some y0 ∧ w'.cell? ⟨kv, q * 3 + 1, none⟩ = some y1 ∧ w'.cell? ⟨kv, q * 3 + 2, none⟩ = some y2)) (late := [9]) (by kernel_rfl) ?_
        clear f5 q1 c0 c1' c2'
        refine zb23 0 155 (π (some ⟨k5, 0, none⟩)) rfl (.inl ⟨by kernel_rfl, ?_⟩) SA.out ?_
        ·rintro w' ⟨z0, z1, z2, z3, z4, z5, z6, z7⟩
         repeat (rename_i hh; clear hh)
         go_simp
        simp only [aP, sT, sZ, sS]
        refine zb23 1 156 (σ (some ⟨gs, 0, none⟩) (L.length + 1 + 1) cq2) rfl (.inl ⟨by kernel_rfl, ?_⟩) SA.out ?_
        ·rintro w' ⟨z0, z1, z2, z3, z4, z5, z6, z7⟩
         repeat (rename_i hh; clear hh)
         go_simp
        simp only [aP, sT, sZ, sS]
        refine zb23 2 157 (O ι L.length) rfl (.inl ⟨by kernel_rfl, ?_⟩) SA.out ?_
        ·rintro w' ⟨z0, z1, z2, z3, z4, z5, z6, z7⟩
         repeat (rename_i hh; clear hh)
         go_simp
        simp only [aP, sT, sZ, sS]
        refine zb23 3 158 (π (some ⟨gs, L.length * 2, none⟩)) rfl (.inl ⟨by kernel_rfl, ?_⟩) SA.out ?_
        ·rintro w' ⟨z0, z1, z2, z3, z4, z5, z6, z7⟩
         repeat (rename_i hh; clear hh)
         go_simp
        simp only [aP, sT, sZ, sS]
        refine zb23 4 159 (π (some ⟨gs, L.length * 2 + 1, none⟩)) rfl (.inl ⟨by kernel_rfl, ?_⟩) SA.out ?_
        ·rintro w' ⟨z0, z1, z2, z3, z4, z5, z6, z7⟩
         repeat (rename_i hh; clear hh)
         go_simp
        simp only [aP, sT, sZ, sS]
        refine zb23 5 160 (σ (some ⟨kv, 0, none⟩) ix.length ix.length) rfl (.inl ⟨by kernel_rfl, ?_⟩) SA.out ?_
        ·rintro w' ⟨z0, z1, z2, z3, z4, z5, z6, z7⟩
         repeat (rename_i hh; clear hh)
         go_simp
        simp only [aP, sT, sZ, sS]
        refine zb23 6 161 (O ι q) rfl (.inl ⟨by kernel_rfl, ?_⟩) SA.out ?_
        ·rintro w' ⟨z0, z1, z2, z3, z4, z5, z6, z7⟩
         repeat (rename_i hh; clear hh)
         go_simp
        simp only [aP, sT, sZ, sS]
        refine zb23 7 162 (γ #[O ι ci, .float .f64 cf, .float .f64 cg]) rfl (.inl ⟨by kernel_rfl, ?_⟩) SA.out ?_
        ·rintro w' ⟨z0, z1, z2, z3, z4, z5, z6, z7⟩
         repeat (rename_i hh; clear hh)
         go_simp
        simp only [aP, sT, sZ, sS]
        refine zb23 8 163 (π (some ⟨kv, q * 3, none⟩)) rfl (.inl ⟨by kernel_rfl, ?_⟩) SA.out ?_
        ·rintro w' ⟨z0, z1, z2, z3, z4, z5, z6, z7⟩
         repeat (rename_i hh; clear hh)
         go_simp
        simp only [aP, sT, sZ, sS]
        refine ze (i := 9) (by kernel_rfl) rfl (fun K hK => ?_)
        go_simp
        refine hK.out _ _ (fun h => absurd h (by decide)) ?_
        clear hK K
        try simp only [aP, sT, sZ, sS]
        refine zm (by kernel_rfl) ?_ _
        refine ⟨rfl, ?_⟩
        clear SA e0 e1 e2 z0 z1 z2
        go_wp2_with fail
        go_roundw
        ·exact ⟨q + 1, _, by go_num, by omega, by rw [List.length_set]; exact HXL.out, HOK2.out, XC.out⟩
        ·simp [intOf]; omega
     ·have hqe : q = ix.length := by omega
      have hd : decide ((q : Int) < (ix.length : Int)) = false := decide_eq_false (by omega)
      have HXL := hide hXl
      clear hXl hqe
      go_wp2_with fail
      go_meet
      case rel => exact ⟨X, HXL.out, HXo.out, XW.out⟩
  case rest =>
  obtain ⟨X, hXl, hXo, hX⟩ := hcut
  have XF := hide hX
  have HXo := hide hXo
  have HXl := hide hXl
  clear hX hXo hXl X4 HOK0
  obtain ⟨hlx, hls⟩ := zx22 HGA.out
  have HLX := hide hlx
  have HLS := hide hls
  clear hlx hls
  have hmem1 : Hid ((k16, Value.slice sA1 1 cA1, Value.slice sB1 1 cB1, (L.length : Int)) ∈ [(k16, Value.slice sA1 1 cA1, Value.slice sB1 1 cB1, (L.length : Int)), (k17, Value.slice sA2 1 cA2, Value.slice sB2 1 cB2, ((L.length + 1 : Nat) : Int))]) := List.mem_cons_self
  have hmem2 : Hid ((k17, Value.slice sA2 1 cA2, Value.slice sB2 1 cB2, ((L.length + 1 : Nat) : Int)) ∈ [(k16, Value.slice sA1 1 cA1, Value.slice sB1 1 cB1, (L.length : Int)), (k17, Value.slice sA2 1 cA2, Value.slice sB2 1 cB2, ((L.length + 1 : Nat) : Int))]) := List.mem_cons_of_mem _ List.mem_cons_self
  by_cases hxe : ix.length = 0
  ·have hz : ((ix.length : Int) == 0) = true := by rw [beq_iff_eq]; omega
   have xb : Bel wc (wc.alloc (χ #[O ι N] 2)) := ((Ext.refl wc).alloc _ 2).bl
   have X1 := hide (XF.out.bel xb)
   have HTK := hide (zo19 (g := wc.heap.size) (cI := 1) X1.out.dh.sv X1.out.dg.sg X1.out.dg.sl (X1.out.avT HLX.out HLS.out) (X1.out.avR hmem2.out) (fun j hj => by
    simp at hj
    subst hj
    exact zg wc #[O ι N] 2 _ rfl 0) HNN.out)
   have f5 := XF.out.b5.cell 0 rfl
   have f90 := XF.out.b9.cell 0 rfl
   have f91 := XF.out.b9.cell 1 rfl
   have f92 := XF.out.b9.cell 2 rfl
   have f93 := XF.out.b9.cell 3 rfl
   have g170 := (X1.out.boxR hmem2.out).cell 0 rfl
   have g171 := (X1.out.boxR hmem2.out).cell 1 rfl
   have g172 := (X1.out.boxR hmem2.out).cell 2 rfl
   have g173 := (X1.out.boxR hmem2.out).cell 3 rfl
   have BL := hide X1.out.bl
   clear xb XF X1
   generalize hl1 : ((L.length + 1 : Nat) : Int) = l1 at *
   clear hl1
   go_wp2_with fail
   refine HTK.out.mono ?_
   rintro e W8 ⟨c8, u8, rfl, b8, hc8⟩
   have B8 := hide (Bel.tr BL.out b8)
   have hc9 : (c8 != 0) = true := by rw [bne, hc8]; rfl
   clear b8 HTK f5 f90 f91 f92 f93 g170 g171 g172 g173
   go_wp2
   go_ret
   exact ⟨rfl, B8.out⟩
  ·have hz : ((ix.length : Int) == 0) = false := by rw [beq_eq_false_iff_ne]; omega
   have h0 : 0 < ix.length := by omega
   have HT := hide (zi21 HVH.out HDGL.out HGA.out HWV.out hk2 h0 (by omega) HXl.out HDT.out HXo.out HNN.out HIx.out)
   obtain ⟨g, hgI⟩ : ∃ g, zn23 = some ⟨g, 0, none⟩ := by
    obtain ⟨sa, ca, e, hh⟩ := zh XF.out.ixo
    simp only [Value.slice.injEq] at e
    obtain ⟨g, hg, _⟩ := hh h0
    exact ⟨g, e.1.trans hg⟩
   subst hgI
   have HSS : Hid (ssOf ((L ++ [(t.1, Value.slice (some ⟨kv, 0, none⟩) ix.length ix.length, X)]) ++ [(t.1, Value.slice (some ⟨ko, 0, none⟩) ix.length ix.length, (List.replicate ix.length k0))]) = ss2 (ssOf L) ⟨(m : Int), xs, ss, off⟩ X ix) := zt17 HDT.out
   have HSL : Hid (SL (ss2 (ssOf L) ⟨(m : Int), xs, ss, off⟩ X ix) 1048576) := HSS.out ▸ XF.out.dg.sl
   have HH0 := hide h0
   clear h0 HVH HDGL HGA HWV HIx HXo HXl HDT HNN hxe
   have hin : Hid (∀ W', Bel wc W' → Row W' g 0 ix ∧ AV W' (γ #[O ι m, σ sA xs.length c1, σ zp23 ss.length c2, O ι off]) ⟨(m : Int), xs, ss, off⟩ ∧ AV W' (γ #[O ι L.length, σ sA1 1 cA1, σ sB1 1 cB1, O ι 0]) (arB (ssOf L) ix) ∧ AV W' (γ #[O ι ((L.length + 1 : Nat) : Int), σ sA2 1 cA2, σ sB2 1 cB2, O ι 0]) (arO (ssOf L) ix) ∧ SV W' (σ sq2 (L.length + 1 + 1) cq2) (ss2 (ssOf L) ⟨(m : Int), xs, ss, off⟩ X ix)) := fun W' b => by
    have Y := XF.out.bel b
    have r1 := Y.avR hmem1.out
    have r2 := Y.avR hmem2.out
    rw [if_neg (by have := HH0.out; omega)] at r1 r2
    refine ⟨?_, Y.avT HLX.out HLS.out, ?_, ?_, HSS.out ▸ Y.dh.sv⟩
    ·obtain ⟨sa, ca, e, hh⟩ := zh Y.ixo
     simp only [Value.slice.injEq] at e
     obtain ⟨g', hg', _, hrow, _⟩ := hh HH0.out
     have e1 := e.1.trans hg'
     simp only [Option.some.injEq, Addr.mk.injEq, and_true] at e1
     rw [e1]
     exact hrow
    ·unfold arB
     rw [ze2]
     exact r1
    ·unfold arO
     rw [ze2]
     exact r2
   generalize hl1 : ((L.length + 1 : Nat) : Int) = l1 at *
   clear hl1
   go_upto_region 29 with fail
   go_cut [21] (fun s21 wx => ∃ (k21 : Nat) (sp : Option Addr) (np cp : Nat), s21 = π (some ⟨k21, 0, none⟩) ∧ Bx wx k21 36 [O ι 0, σ sp np cp] ∧ Bel wc wx ∧ SV wx (σ sp np cp) (ss3 (ssOf L) ⟨(m : Int), xs, ss, off⟩ X ix))
   case first =>
    as_aux_lemma =>
     have H29 := hin.out wc (Below.refl _ _)
     have HPUT := hide (zn21 (cI := cI) H29.2.2.2.2 HT.out HSL.out H29.2.1 H29.2.2.1 H29.1)
     have f5 := XF.out.b5.cell 0 rfl
     have f90 := XF.out.b9.cell 0 rfl
     have f91 := XF.out.b9.cell 1 rfl
     have f92 := XF.out.b9.cell 2 rfl
     have f93 := XF.out.b9.cell 3 rfl
     have g160 := (XF.out.boxR hmem1.out).cell 0 rfl
     have g161 := (XF.out.boxR hmem1.out).cell 1 rfl
     have g162 := (XF.out.boxR hmem1.out).cell 2 rfl
     have g163 := (XF.out.boxR hmem1.out).cell 3 rfl
     clear H29 XF
     go_wp2_with fail
     refine HPUT.out.mono ?_
     rintro e W5 ⟨sp, np, cp, rfl, b5, hs5⟩
     have E6 : Hid (Bel W5 (W5.alloc (χ #[O ι 0, σ sp np cp] 36))) := ((Ext.refl W5).alloc _ _).bl
     have B6 : Hid (Bel wc (W5.alloc (χ #[O ι 0, σ sp np cp] 36))) := Bel.tr b5 E6.out
     have HS6 := hide (hs5.keep E6.out)
     have HB6 : Hid (Bx (W5.alloc (χ #[O ι 0, σ sp np cp] 36)) W5.heap.size 36 [O ι 0, σ sp np cp]) := Bx.new W5 36 #[O ι 0, σ sp np cp] _ rfl
     clear b5 hs5 HPUT f5 f90 f91 f92 f93 g160 g161 g162 g163 E6
     go_wp2_with fail
     go_meet
     case rel => exact ⟨_, sp, np, cp, rfl, HB6.out, B6.out, HS6.out⟩
   case rest =>
   obtain ⟨k21, sp, np, cp, rfl, hb21, hw21, hs21⟩ := hcut
   have B21 := hide hb21
   have S21 := hide hs21
   have W21 := hide hw21
   clear hb21 hs21 hw21
   go_upto_region 30 with fail
   go_cut [22] (fun s22 wx => ∃ (k22 : Nat) (sr : Option Addr) (nr cr : Nat), s22 = π (some ⟨k22, 0, none⟩) ∧ Bx wx k22 36 [O ι 0, σ sr nr cr] ∧ Bel wc wx ∧ SV wx (σ sr nr cr) (ss4 (ssOf L) ⟨(m : Int), xs, ss, off⟩ X ix))
   case first =>
    as_aux_lemma =>
     have H30 := hin.out wc W21.out
     have X21 := hide (XF.out.bel W21.out)
     have HTAK := hide (zn19 (cI := cI) S21.out HT.out (HT.out.sls HSL.out).1 H30.2.1 H30.2.2.2.1 H30.1)
     have f1 := B21.out.cell 1 rfl
     have f90 := X21.out.b9.cell 0 rfl
     have f91 := X21.out.b9.cell 1 rfl
     have f92 := X21.out.b9.cell 2 rfl
     have f93 := X21.out.b9.cell 3 rfl
     have g160 := (X21.out.boxR hmem2.out).cell 0 rfl
     have g161 := (X21.out.boxR hmem2.out).cell 1 rfl
     have g162 := (X21.out.boxR hmem2.out).cell 2 rfl
     have g163 := (X21.out.boxR hmem2.out).cell 3 rfl
     clear H30 XF X21
     go_wp2_with fail
     refine HTAK.out.mono ?_
     rintro e W5 ⟨sp, np, cp, rfl, b5, hs5⟩
     have E6 : Hid (Bel W5 (W5.alloc (χ #[O ι 0, σ sp np cp] 36))) := ((Ext.refl W5).alloc _ _).bl
     have B6 : Hid (Bel wc (W5.alloc (χ #[O ι 0, σ sp np cp] 36))) := Bel.tr b5 E6.out
     have HS6 := hide (hs5.keep E6.out)
     have HB6 : Hid (Bx (W5.alloc (χ #[O ι 0, σ sp np cp] 36)) W5.heap.size 36 [O ι 0, σ sp np cp]) := Bx.new W5 36 #[O ι 0, σ sp np cp] _ rfl
     clear b5 hs5 HTAK f1 f90 f91 f92 f93 g160 g161 g162 g163 E6
     go_wp2_with fail
     go_meet
     case rel => exact ⟨_, sp, np, cp, rfl, HB6.out, B6.out, HS6.out⟩
   case rest =>
   obtain ⟨k22, sr, nr, cr, rfl, hb22, hw22, hs22⟩ := hcut
   have B22 := hide hb22
   have S22 := hide hs22
   have W22 := hide (Bel.tr W21.out hw22)
   have B21' := hide (B21.out.bel hw22)
   clear hb22 hs22 hw22 B21 S21 W21
   have X22 := hide (XF.out.bel W22.out)
   have s0 := B21'.out.cell 0 rfl
   have s1 := B22.out.cell 0 rfl
   have s2 := B22.out.cell 1 rfl
   have s3 := (X22.out.boxR hmem2.out).cell 0 rfl
   have s4 := (X22.out.boxR hmem2.out).cell 1 rfl
   have s5 := (X22.out.boxR hmem2.out).cell 2 rfl
   have s6' := (X22.out.boxR hmem2.out).cell 3 rfl
   have s7 := X22.out.b5.cell 0 rfl
   have s8 := (X22.out.boxR hmem1.out).cell 0 rfl
   have s9 := (X22.out.boxR hmem1.out).cell 1 rfl
   have s10 := (X22.out.boxR hmem1.out).cell 2 rfl
   have s11 := (X22.out.boxR hmem1.out).cell 3 rfl
   have BW := hide X22.out.bl
   have xd : Bel wc wc.drew := ((Ext.refl wc).drew).bl
   clear X22
   go_wp2_with fail
   have SA : Hid ((fun w' : World => w'.cell? ⟨k21, 0, none⟩ = some (O ι 0) ∧ w'.cell? ⟨k22, 0, none⟩ = some (O ι 0) ∧ w'.cell? ⟨k22, 1, none⟩ = some (σ sr nr cr) ∧ w'.cell? ⟨k17, 0, none⟩ = some (O ι l1) ∧ w'.cell? ⟨k17, 1, none⟩ = some (σ sA2 1 cA2) ∧ w'.cell? ⟨k17, 2, none⟩ = some (σ sB2 1 cB2) ∧ w'.cell? ⟨k17, 3, none⟩ = some (O ι 0) ∧ w'.cell? ⟨k5, 0, none⟩ = some (σ sq2 (L.length + 1 + 1) cq2) ∧ w'.cell? ⟨k16, 0, none⟩ = some (O ι L.length) ∧ w'.cell? ⟨k16, 1, none⟩ = some (σ sA1 1 cA1) ∧ w'.cell? ⟨k16, 2, none⟩ = some (σ sB1 1 cB1) ∧ w'.cell? ⟨k16, 3, none⟩ = some (O ι 0)) wc.drew) := ⟨s0, s1, s2, s3, s4, s5, s6', s7, s8, s9, s10, s11⟩
   refine zv (S := (fun w' : World => w'.cell? ⟨k21, 0, none⟩ = some (O ι 0) ∧ w'.cell? ⟨k22, 0, none⟩ = some (O ι 0) ∧ w'.cell? ⟨k22, 1, none⟩ = some (σ sr nr cr) ∧ w'.cell? ⟨k17, 0, none⟩ = some (O ι l1) ∧ w'.cell? ⟨k17, 1, none⟩ = some (σ sA2 1 cA2) ∧ w'.cell? ⟨k17, 2, none⟩ = some (σ sB2 1 cB2) ∧ w'.cell? ⟨k17, 3, none⟩ = some (O ι 0) ∧ w'.cell? ⟨k5, 0, none⟩ = some (σ sq2 (L.length + 1 + 1) cq2) ∧ w'.cell? ⟨k16, 0, none⟩ = some (O ι L.length) ∧ w'.cell? ⟨k16, 1, none⟩ = some (σ sA1 1 cA1) ∧ w'.cell? ⟨k16, 2, none⟩ = some (σ sB1 1 cB1) ∧ w'.cell? ⟨k16, 3, none⟩ = some (O ι 0))) (late := []) (by kernel_rfl) ?_
   refine zb23 0 186 (π (some ⟨k21, 0, none⟩)) rfl (.inl ⟨by kernel_rfl, ?_⟩) SA.out ?_
   ·rintro w' ⟨z0, z1, z2, z3, z4, z5, z6, z7, z8, z9, z10, z11⟩
    go_simp
   simp only [aP, sT, sZ, sS]
   refine zb23 1 187 (O ι 0) rfl (.inl ⟨by kernel_rfl, ?_⟩) SA.out ?_
   ·rintro w' ⟨z0, z1, z2, z3, z4, z5, z6, z7, z8, z9, z10, z11⟩
    go_simp
   simp only [aP, sT, sZ, sS]
   refine zb23 2 188 (.bool true) rfl (.inl ⟨by kernel_rfl, ?_⟩) SA.out ?_
   ·rintro w' ⟨z0, z1, z2, z3, z4, z5, z6, z7, z8, z9, z10, z11⟩
    go_simp
   simp only [aP, sT, sZ, sS]
   refine zb23 3 189 (.bool true) rfl (.inl ⟨by kernel_rfl, ?_⟩) SA.out ?_
   ·rintro w' ⟨z0, z1, z2, z3, z4, z5, z6, z7, z8, z9, z10, z11⟩
    go_simp
   simp only [aP, sT, sZ, sS]
   refine zb23 4 190 (π (some ⟨k22, 0, none⟩)) rfl (.inl ⟨by kernel_rfl, ?_⟩) SA.out ?_
   ·rintro w' ⟨z0, z1, z2, z3, z4, z5, z6, z7, z8, z9, z10, z11⟩
    go_simp
   simp only [aP, sT, sZ, sS]
   refine zb23 5 191 (O ι 0) rfl (.inl ⟨by kernel_rfl, ?_⟩) SA.out ?_
   ·rintro w' ⟨z0, z1, z2, z3, z4, z5, z6, z7, z8, z9, z10, z11⟩
    go_simp
   simp only [aP, sT, sZ, sS]
   refine zb23 6 192 (.bool true) rfl (.inl ⟨by kernel_rfl, ?_⟩) SA.out ?_
   ·rintro w' ⟨z0, z1, z2, z3, z4, z5, z6, z7, z8, z9, z10, z11⟩
    go_simp
   simp only [aP, sT, sZ, sS]
   refine zb23 7 193 (.bool true) rfl (.inl ⟨by kernel_rfl, ?_⟩) SA.out ?_
   ·rintro w' ⟨z0, z1, z2, z3, z4, z5, z6, z7, z8, z9, z10, z11⟩
    go_simp
   simp only [aP, sT, sZ, sS]
   refine zb23 8 194 (.bool true) rfl (.inl ⟨by kernel_rfl, ?_⟩) SA.out ?_
   ·rintro w' ⟨z0, z1, z2, z3, z4, z5, z6, z7, z8, z9, z10, z11⟩
    go_simp
   simp only [aP, sT, sZ, sS]
   refine zb23 9 195 (π (some ⟨k22, 1, none⟩)) rfl (.inl ⟨by kernel_rfl, ?_⟩) SA.out ?_
   ·rintro w' ⟨z0, z1, z2, z3, z4, z5, z6, z7, z8, z9, z10, z11⟩
    go_simp
   simp only [aP, sT, sZ, sS]
   refine zb23 10 196 (γ #[σ sr nr cr]) rfl (.inl ⟨by kernel_rfl, ?_⟩) SA.out ?_
   ·rintro w' ⟨z0, z1, z2, z3, z4, z5, z6, z7, z8, z9, z10, z11⟩
    go_simp
   simp only [aP, sT, sZ, sS]
   refine zb23 11 197 (γ #[O ι l1, σ sA2 1 cA2, σ sB2 1 cB2, O ι 0]) rfl (.inl ⟨by kernel_rfl, ?_⟩) SA.out ?_
   ·rintro w' ⟨z0, z1, z2, z3, z4, z5, z6, z7, z8, z9, z10, z11⟩
    go_simp
   simp only [aP, sT, sZ, sS]
   refine zb23 13 199 (γ #[(σ sq2 (L.length + 1 + 1) cq2)]) rfl (.inl ⟨by kernel_rfl, ?_⟩) SA.out ?_
   ·rintro w' ⟨z0, z1, z2, z3, z4, z5, z6, z7, z8, z9, z10, z11⟩
    go_simp
   simp only [aP, sT, sZ, sS]
   refine zb23 14 200 (γ #[O ι L.length, σ sA1 1 cA1, σ sB1 1 cB1, O ι 0]) rfl (.inl ⟨by kernel_rfl, ?_⟩) SA.out ?_
   ·rintro w' ⟨z0, z1, z2, z3, z4, z5, z6, z7, z8, z9, z10, z11⟩
    go_simp
   simp only [aP, sT, sZ, sS]
   refine ze (i := 12) (by kernel_rfl) rfl (fun K hK => ?_)
   go_simp
   refine (zm21 (S22.out.keep xd) HT.out (HT.out.sls HSL.out).2 (hin.out _ (Bel.tr W22.out xd)).2.2.2.1).mono ?_
   rintro e2 t1 ⟨sx, cx, rfl, bx, cvx⟩
   have T1 := hide (Bel.tr xd bx)
   have CV1 := hide cvx
   clear cvx bx
   have S1 : Hid ((fun w' : World => w'.cell? ⟨k21, 0, none⟩ = some (O ι 0) ∧ w'.cell? ⟨k22, 0, none⟩ = some (O ι 0) ∧ w'.cell? ⟨k22, 1, none⟩ = some (σ sr nr cr) ∧ w'.cell? ⟨k17, 0, none⟩ = some (O ι l1) ∧ w'.cell? ⟨k17, 1, none⟩ = some (σ sA2 1 cA2) ∧ w'.cell? ⟨k17, 2, none⟩ = some (σ sB2 1 cB2) ∧ w'.cell? ⟨k17, 3, none⟩ = some (O ι 0) ∧ w'.cell? ⟨k5, 0, none⟩ = some (σ sq2 (L.length + 1 + 1) cq2) ∧ w'.cell? ⟨k16, 0, none⟩ = some (O ι L.length) ∧ w'.cell? ⟨k16, 1, none⟩ = some (σ sA1 1 cA1) ∧ w'.cell? ⟨k16, 2, none⟩ = some (σ sB1 1 cB1) ∧ w'.cell? ⟨k16, 3, none⟩ = some (O ι 0)) t1) := ⟨Bel.box T1.out s0, Bel.box T1.out s1, Bel.box T1.out s2, Bel.box T1.out s3, Bel.box T1.out s4, Bel.box T1.out s5, Bel.box T1.out s6', Bel.box T1.out s7, Bel.box T1.out s8, Bel.box T1.out s9, Bel.box T1.out s10, Bel.box T1.out s11⟩
   refine hK.out _ _ (fun _ => S1.out) ?_
   clear hK K
   try simp only [aP, sT, sZ, sS]
   refine ze (i := 15) (by kernel_rfl) rfl (fun K hK => ?_)
   go_simp
   refine (zl21 (hin.out _ (Bel.tr W22.out T1.out)).2.2.2.2 HT.out HSL.out (hin.out _ (Bel.tr W22.out T1.out)).2.2.1).mono ?_
   rintro e2 t2 ⟨sy, cy, rfl, by2, cvy⟩
   have T2 := hide (Bel.tr T1.out by2)
   have CV2 := hide cvy
   have CV3 := hide (CV1.out.keep by2)
   clear cvy by2
   have S2 : Hid ((fun w' : World => w'.cell? ⟨k21, 0, none⟩ = some (O ι 0) ∧ w'.cell? ⟨k22, 0, none⟩ = some (O ι 0) ∧ w'.cell? ⟨k22, 1, none⟩ = some (σ sr nr cr) ∧ w'.cell? ⟨k17, 0, none⟩ = some (O ι l1) ∧ w'.cell? ⟨k17, 1, none⟩ = some (σ sA2 1 cA2) ∧ w'.cell? ⟨k17, 2, none⟩ = some (σ sB2 1 cB2) ∧ w'.cell? ⟨k17, 3, none⟩ = some (O ι 0) ∧ w'.cell? ⟨k5, 0, none⟩ = some (σ sq2 (L.length + 1 + 1) cq2) ∧ w'.cell? ⟨k16, 0, none⟩ = some (O ι L.length) ∧ w'.cell? ⟨k16, 1, none⟩ = some (σ sA1 1 cA1) ∧ w'.cell? ⟨k16, 2, none⟩ = some (σ sB1 1 cB1) ∧ w'.cell? ⟨k16, 3, none⟩ = some (O ι 0)) t2) := ⟨Bel.box T2.out s0, Bel.box T2.out s1, Bel.box T2.out s2, Bel.box T2.out s3, Bel.box T2.out s4, Bel.box T2.out s5, Bel.box T2.out s6', Bel.box T2.out s7, Bel.box T2.out s8, Bel.box T2.out s9, Bel.box T2.out s10, Bel.box T2.out s11⟩
   refine hK.out _ _ (fun _ => S2.out) ?_
   clear hK K
   try simp only [aP, sT, sZ, sS]
   refine ze (i := 16) (by kernel_rfl) rfl (fun K hK => ?_)
   go_simp
   refine (zu10 CV3.out CV2.out HT.out.cgX (by rw [HT.out.xl]; omega)).mono ?_
   rintro e2 t3 ⟨rfl, xz⟩
   have T3 := hide (Bel.tr T2.out xz.bl)
   clear xz
   have S3 : Hid ((fun w' : World => w'.cell? ⟨k21, 0, none⟩ = some (O ι 0) ∧ w'.cell? ⟨k22, 0, none⟩ = some (O ι 0) ∧ w'.cell? ⟨k22, 1, none⟩ = some (σ sr nr cr) ∧ w'.cell? ⟨k17, 0, none⟩ = some (O ι l1) ∧ w'.cell? ⟨k17, 1, none⟩ = some (σ sA2 1 cA2) ∧ w'.cell? ⟨k17, 2, none⟩ = some (σ sB2 1 cB2) ∧ w'.cell? ⟨k17, 3, none⟩ = some (O ι 0) ∧ w'.cell? ⟨k5, 0, none⟩ = some (σ sq2 (L.length + 1 + 1) cq2) ∧ w'.cell? ⟨k16, 0, none⟩ = some (O ι L.length) ∧ w'.cell? ⟨k16, 1, none⟩ = some (σ sA1 1 cA1) ∧ w'.cell? ⟨k16, 2, none⟩ = some (σ sB1 1 cB1) ∧ w'.cell? ⟨k16, 3, none⟩ = some (O ι 0)) t3) := ⟨Bel.box T3.out s0, Bel.box T3.out s1, Bel.box T3.out s2, Bel.box T3.out s3, Bel.box T3.out s4, Bel.box T3.out s5, Bel.box T3.out s6', Bel.box T3.out s7, Bel.box T3.out s8, Bel.box T3.out s9, Bel.box T3.out s10, Bel.box T3.out s11⟩
   refine hK.out _ _ (fun _ => S3.out) ?_
   clear hK K
   try simp only [aP, sT, sZ, sS]
   refine zb23 17 203 (.bool true) rfl (.inl ⟨by kernel_rfl, ?_⟩) S3.out ?_
   ·rintro w' ⟨z0, z1, z2, z3, z4, z5, z6, z7, z8, z9, z10, z11⟩
    go_simp
   simp only [aP, sT, sZ, sS]
   refine zb23 18 4 (.bool true) rfl (.inl ⟨by kernel_rfl, ?_⟩) S3.out ?_
   ·rintro w' ⟨z0, z1, z2, z3, z4, z5, z6, z7, z8, z9, z10, z11⟩
    go_simp
   simp only [aP, sT, sZ, sS]
   refine zm (by kernel_rfl) ?_ _
   refine ⟨rfl, ?_⟩
   have BF := hide (Bel.tr BW.out T3.out)
   go_wp2
   go_ret
   exact ⟨rfl, BF.out⟩
end
section
open Go.ChangeShapes Go.WideShapes Go.ChangeAt Go.RowKit FL
theorem zr22 : laidOutB Tryz.prog = true := by kernel_rfl
theorem zx21 : Tryz.prog.cellsOf 5 = 1 := by kernel_rfl
theorem zl17 {H : Type} {enc : TypeId × Value → H} {W : World} {b0 : Nat} {v : Value} {d : DataW H} {p : List MemPlace} (hv : Value.okWide Tryz.prog W .any b0 22 v)
  (h : DataW.Trod enc Tryz.prog W 0 (fun _ => true) true 22 v d p) : ∃ sa len cap, v = σ sa len cap ∧ Code W v len := by
 obtain ⟨a0, len, cap, rfl⟩ := okWide_slice Tryz.underlying22 hv
 obtain ⟨fuel, hf⟩ := h
 rcases open_ints Tryz.underlying22 Tryz.underlying5 zx21 hf with ⟨hcs, hx⟩ | ⟨a, len', cap', zo23, hcs, _, hl, hm, hz, hx, hcell, hwz⟩
 ·simp [Value.cells] at hcs
  obtain ⟨rfl, rfl, rfl⟩ := hcs
  exact ⟨_, _, _, rfl, Or.inl ⟨rfl, rfl⟩⟩
 ·simp [Value.cells] at hcs
  obtain ⟨rfl, rfl, rfl⟩ := hcs
  simp only [if_true] at hz
  simp only [Value.okWide, Tryz.underlying22, Cell.okWide, Cell.ok] at hv
  obtain ⟨_, _, _, hs, row, cells, hsh, _⟩ := hv
  obtain ⟨b, off, spot⟩ := a
  simp only at hs hsh
  subst hs
  have hb : b < W.heap.size := by
   by_cases e : b < W.heap.size
   ·exact e
   ·have e2 : W.heap[b]? = none := by simp; omega
    rw [World.shape?, e2] at hsh; cases hsh
  refine ⟨_, _, _, rfl, Or.inr ⟨b, off, _, rfl, hb, by omega, fun j hj => ?_⟩⟩
  have hc : W.cell? ⟨b, off + j, none⟩ = some (.int .u8 (zo23.getD j 0)) := by
   have ha : (⟨b, off, none⟩ : Addr).add j = ⟨b, off + j, none⟩ := by cases j <;> simp [Addr.add]
   have h1 := hcell j (by omega)
   rw [ha] at h1; exact h1
  have hw := hwz (zo23.getD j 0) (by rw [List.getD_eq_getElem?_getD, List.getElem?_eq_getElem (by omega)]; exact List.getElem_mem _)
  refine ⟨_, hc, ?_⟩
  have := bounds_u8 hw
  omega
end
end Go.Proofs.YtjbbodfdpbcnhaaGreat
