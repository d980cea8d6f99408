import Derived.Test.YtjbbodfdpbcnhaaGreatM11
namespace Go.Proofs.YtjbbodfdpbcnhaaGreat
open List renaming setIfInBounds_toArray → sT, set_cons_zero → sZ, set_cons_succ → sS
open Go.Value renaming int → O, slice → σ, pointer → π, agg → γ
open Go.IntKind renaming i64 → ι
open Go.Obj renaming cells → χ
open Go.Act renaming put → aP
set_option maxRecDepth 100000
set_option maxHeartbeats 8000000
open Go.ChangeShapes Go.RowKit FL
set_option linter.unusedSimpArgs false
set_option linter.unusedVariables false
def BinOk (w : World) (H b : Nat) (e : Ending) (W : World) : Prop := ∃ (sq : Option Addr) (cq : Nat) (L : List Dst) (op st sa sb o1 o2 off : Int) (sA zp23 aA aB bA bB : Option Addr) (n1 n2 n3 n4 n5 n6 c1 c2 c3 c4 c5 c6 : Nat) (xs ss : List Int), e = .returned (.tuple #[γ #[σ sq L.length cq], O ι op, γ #[O ι sa, σ aA n3 c3, σ aB n4 c4, O ι o1], γ #[O ι sb, σ bA n5 c5, σ bB n6 c6, O ι o2], γ #[O ι st, σ sA n1 c1, σ zp23 n2 c2, O ι off]]) ∧ DG L ∧ AD W H (σ sA n1 c1) (σ zp23 n2 c2) xs ss ∧ PBx w W H b (σ sq L.length cq) L []
theorem zj15 {w : World} {H b : Nat} (hs : SX w H b) (hHw : H = w.heap.size) : Calls Tryz.prog 16 #[π (some ⟨b, 0, none⟩)] w fun e W => BinOk w H b e W := by
 have hbH := hs.hb
 have hsz : H ≤ w.heap.size := by omega
 have P0 : Hid (PBx w ((((w.alloc (χ #[σ none 0 0] 25)).alloc (χ #[O ι 0, σ none 0 0, σ none 0 0, O ι 0] 30)).alloc (χ #[O ι 0, σ none 0 0, σ none 0 0, O ι 0] 30)).alloc (χ #[O ι 0, σ none 0 0, σ none 0 0, O ι 0] 30)) H b (σ none 0 0) [] [(w.heap.size, 25, [σ none 0 0]), (w.heap.size + 1, 30, [O ι 0, σ none 0 0, σ none 0 0, O ι 0]), (w.heap.size + 1 + 1, 30, [O ι 0, σ none 0 0, σ none 0 0, O ι 0]), (w.heap.size + 1 + 1 + 1, 30, [O ι 0, σ none 0 0, σ none 0 0, O ι 0])]) := by
  have p0 : PBx w w H b (σ none 0 0) [] [] := ⟨hs, hsz, rfl, rfl, rfl, Nat.le_refl _, fun _ _ _ => rfl, DH.nil _ _, DG.nil, fun i q h => by simp at h, fun i j q r h => by simp at h⟩
  have p1 := p0.new #[σ none 0 0] 25 (Or.inl rfl)
  have p2 := p1.new #[O ι 0, σ none 0 0, σ none 0 0, O ι 0] 30 (Or.inr rfl)
  have p3 := p2.new #[O ι 0, σ none 0 0, σ none 0 0, O ι 0] 30 (Or.inr rfl)
  have p4 := p3.new #[O ι 0, σ none 0 0, σ none 0 0, O ι 0] 30 (Or.inr rfl)
  show PBx _ _ _ _ _ _ _
  simpa using p4
 clear hs
 go_enter Tryz.func16, Tryz.ntmps16
 go_wp2_with fail
 generalize (((w.alloc (χ #[σ none 0 0] 25)).alloc (χ #[O ι 0, σ none 0 0, σ none 0 0, O ι 0] 30)).alloc (χ #[O ι 0, σ none 0 0, σ none 0 0, O ι 0] 30)).alloc (χ #[O ι 0, σ none 0 0, σ none 0 0, O ι 0] 30) = W0 at P0 ⊢
 refine (P0.out.sf.next 3).mono ?_
 rintro e W1 ⟨z, rfl, ⟨hz0, hz1, _⟩, s1, m1⟩
 have hz2 := hz1 (by omega)
 have P1 := hide (P0.out.mut s1.src m1)
 clear s1 m1 P0 hz1
 obtain ⟨n, hn⟩ : ∃ n : Nat, 1 + z = (n : Int) := ⟨(1 + z).toNat, by omega⟩
 have hn3 : n ≤ 3 := by omega
 have hn1 : 1 ≤ n := by omega
 go_wp2_with fail
 refine (zi11 P1.out.sf hn3).mono ?_
 rintro e W2 ⟨sv, L, rfl, hD, hG, hO, hLn, s2⟩
 obtain ⟨sq, cq, rfl⟩ := hD.form
 have P2 : Hid (PBx w (W2.alloc (χ #[σ sq L.length cq] 25)) H b (σ sq L.length cq) L [(w.heap.size, 25, [σ none 0 0]), (w.heap.size + 1, 30, [O ι 0, σ none 0 0, σ none 0 0, O ι 0]), (w.heap.size + 1 + 1, 30, [O ι 0, σ none 0 0, σ none 0 0, O ι 0]), (w.heap.size + 1 + 1 + 1, 30, [O ι 0, σ none 0 0, σ none 0 0, O ι 0]), (W2.heap.size, 25, [σ sq L.length cq])]) := by
  have := (P1.out.kf s2.kf s2.src hD hG).new #[σ sq L.length cq] 25 (Or.inl rfl)
  show PBx _ _ _ _ _ _ _
  simpa using this
 have HO := hide hO
 have hL0 : 0 < L.length := by omega
 clear hLn
 clear hD hG hO s2 P1 hn hz0 hz2
 go_wp2_with fail
 generalize W2.heap.size = k7 at P2 ⊢
 generalize W2.alloc (χ #[σ sq L.length cq] 25) = W3 at P2 ⊢
 refine (zg15 P2.out.sf).mono ?_
 rintro e W4 ⟨sy, cy, ys, rfl, hsm, hlb⟩
 have P4 := hide (P2.out.gb hlb.gb hlb.sf.src)
 have HSM := hide hsm
 have IY : Hid (IJ W4 H (σ sy ys.length cy) ys) := IJ.of (zq3 hlb.own (by have := P2.out.size; omega))
 clear hsm hlb P2
 obtain ⟨Lq, hLq⟩ : ∃ Lq : Nat, Lq = L.length := ⟨_, rfl⟩
 have hLq0 : 0 < Lq := by omega
 obtain ⟨lo, hlo⟩ : ∃ lo : Nat, H = lo := ⟨_, rfl⟩
 have hHlo : H ≤ lo := by omega
 have P4d := hide P4.out.drew
 have IY0 : Hid (IJ W4.drew H (σ sy ys.length cy) ys) := IY.out.bel (zz W4)
 have LO0 : Hid (LOk W4.drew lo) := by
  show lo ≤ W4.drew.heap.size
  have := P4d.out.size
  omega
 clear P4 IY
 go_upto_region 3 with fail
 go_cut [9] (fun s9 wx => ∃ (k9 : Nat) (sq : Option Addr) (cq : Nat) (L : List Dst) (stx : Nat) (xA xB : Option Addr) (xcA xcB : Nat) (xx sx : List Int) (offx : Int), s9 = π (some ⟨k9, 0, none⟩) ∧ PBx w wx H b (σ sq L.length cq) L [(w.heap.size, 25, [σ none 0 0]), (w.heap.size + 1, 30, [O ι 0, σ none 0 0, σ none 0 0, O ι 0]), (w.heap.size + 1 + 1, 30, [O ι 0, σ none 0 0, σ none 0 0, O ι 0]), (w.heap.size + 1 + 1 + 1, 30, [O ι 0, σ none 0 0, σ none 0 0, O ι 0]), (k7, 25, [σ sq L.length cq]), (k9, 30, [O ι stx, σ xA xx.length xcA, σ xB sx.length xcB, O ι offx])] ∧ DtOk L ∧ L.length = Lq ∧ stx < Lq ∧ AD wx lo (σ xA xx.length xcA) (σ xB sx.length xcB) xx sx ∧ IJ wx H (σ sy ys.length cy) ys)
 case first =>
  as_aux_lemma =>
   have SA : Hid ((fun w' : World => w'.cell? ⟨k7, 0, none⟩ = some (σ sq L.length cq)) W4.drew) := (show Bx _ k7 25 [σ sq L.length cq] from (P4d.out.bx 4 _ rfl).1).cell 0 rfl
   refine zj9 (S := (fun w' : World => w'.cell? ⟨k7, 0, none⟩ = some (σ sq L.length cq))) (T := fun _ => True) (late := [11, 12]) (by kernel_rfl) ?_
   generalize W4.drew = W4d at SA P4d IY0 LO0 ⊢
   refine zr (i := 0) (v := γ #[σ sq L.length cq]) rfl (by kernel_rfl) (by kernel_rfl) (by kernel_rfl) (fun _ _ _ h => by cases h.1) _ (by kernel_rfl) (by kernel_rfl) (by kernel_rfl) (Or.inl ⟨by rfl, ?_⟩) trivial SA.out ?_
   ·intro w' z0
    go_simp
   try simp only [aP, sT, sZ, sS]
   refine zr (i := 1) (v := π (some ⟨b, 0, none⟩)) rfl (by kernel_rfl) (by kernel_rfl) (by kernel_rfl) (fun _ _ _ h => by cases h.1) _ (by kernel_rfl) (by kernel_rfl) (by kernel_rfl) (Or.inl ⟨by rfl, ?_⟩) trivial SA.out ?_
   ·intro w' z0
    go_simp
   try simp only [aP, sT, sZ, sS]
   refine zr (i := 2) (v := σ sy ys.length cy) rfl (by kernel_rfl) (by kernel_rfl) (by kernel_rfl) (fun _ _ _ h => by cases h.1) _ (by kernel_rfl) (by kernel_rfl) (by kernel_rfl) (Or.inl ⟨by rfl, ?_⟩) trivial SA.out ?_
   ·intro w' z0
    go_simp
   try simp only [aP, sT, sZ, sS]
   refine zr (i := 3) (v := γ #[σ sq L.length cq]) rfl (by kernel_rfl) (by kernel_rfl) (by kernel_rfl) (fun _ _ _ h => by cases h.1) _ (by kernel_rfl) (by kernel_rfl) (by kernel_rfl) (Or.inl ⟨by rfl, ?_⟩) trivial SA.out ?_
   ·intro w' z0
    go_simp
   try simp only [aP, sT, sZ, sS]
   refine zr (i := 4) (v := π (some ⟨b, 0, none⟩)) rfl (by kernel_rfl) (by kernel_rfl) (by kernel_rfl) (fun _ _ _ h => by cases h.1) _ (by kernel_rfl) (by kernel_rfl) (by kernel_rfl) (Or.inl ⟨by rfl, ?_⟩) trivial SA.out ?_
   ·intro w' z0
    go_simp
   try simp only [aP, sT, sZ, sS]
   refine zr1 (rs := [5, 10]) (by kernel_rfl) (by simp) (fun i hi => ?_)
   simp only [List.mem_cons, List.not_mem_nil, or_false] at hi
   rcases hi with rfl | rfl
   ·refine ⟨_, rfl, fun K hK => ?_⟩
    go_simp
    refine (zk1 P4d.out.sf P4d.out.dh (by have := P4d.out.dg.cnt; omega)).mono ?_
    rintro e U1 ⟨sti1, rfl, hst01, hst11, sU1, gU1⟩
    obtain ⟨st1, hste1⟩ : ∃ st1 : Nat, sti1 = (st1 : Int) := ⟨sti1.toNat, by omega⟩
    subst hste1
    have hstl1 : st1 < L.length := by omega
    have PU1 := hide (P4d.out.gb gU1 sU1.src)
    have IY1 := hide (IY0.out.kf sU1.kf hbH)
    have LO1 := hide (LO0.out.kf sU1.kf hbH)
    have SB1 : Hid ((fun w' : World => w'.cell? ⟨k7, 0, none⟩ = some (σ sq L.length cq)) U1) := (show Bx _ k7 25 [σ sq L.length cq] from (PU1.out.bx 4 _ rfl).1).cell 0 rfl
    clear sU1 gU1 hst01 hst11
    refine hK.out _ _ trivial (fun _ => SB1.out) ?_
    clear hK K
    try simp only [aP, sT, sZ, sS]
    refine zr1 (rs := [6, 10]) (by kernel_rfl) (by simp) (fun i hi => ?_)
    simp only [List.mem_cons, List.not_mem_nil, or_false] at hi
    rcases hi with rfl | rfl
    ·refine ⟨_, rfl, fun K hK => ?_⟩
     go_simp
     refine (zy2 PU1.out.sf PU1.out.dh PU1.out.dg HO.out IY1.out.ik HSM.out hstl1).mono ?_
     rintro e U2 ⟨svv2, L2, vA2, vB2, xs2, ss2, off2, rfl, hD2, hG2, hO2, hL2, hV2, hlx2, hls2, sU2⟩
     obtain ⟨sq2, cq2, rfl⟩ := hD2.form
     obtain ⟨sA2, cA2, rfl, _⟩ := zh hV2.a
     obtain ⟨sB2, cB2, rfl, _⟩ := zh hV2.c
     have PU2 := hide (PU1.out.kf sU2.kf sU2.src hD2 hG2)
     have AD2 : Hid (AD U2 lo (σ sA2 xs2.length cA2) (σ sB2 ss2.length cB2) xs2 ss2) := ⟨hV2.low LO1.out, hlx2, hls2⟩
     have HO2 := hide hO2
     have HL2 := hide hL2
     have hbl : b < lo := by omega
     have IY2 := hide (IY1.out.kf sU2.kf hbH)
     have LO2 := hide (LO1.out.kf sU2.kf hbH)
     clear sU2 hD2 hG2 hO2 hL2 hV2 hlx2 hls2
     have SB2 : Hid ((fun w' : World => w'.cell? ⟨k7, 0, none⟩ = some (σ sq L.length cq)) U2) := (show Bx _ k7 25 [σ sq L.length cq] from (PU2.out.bx 4 _ rfl).1).cell 0 rfl
     refine hK.out _ _ trivial (fun _ => SB2.out) ?_
     clear hK K
     try simp only [aP, sT, sZ, sS]
     refine zj (i := 7) (v := .tuple #[γ #[σ sq2 L2.length cq2], γ #[O ι st1, σ sA2 xs2.length cA2, σ sB2 ss2.length cB2, O ι off2]]) rfl (by kernel_rfl) (by kernel_rfl) (fun _ _ _ h => by cases h.1) _ (by kernel_rfl) (by kernel_rfl) (Or.inl ⟨by rfl, ?_⟩) trivial (fun _ => SB2.out) ?_
     ·intro w' _
      go_simp
     try simp only [aP, sT, sZ, sS]
     refine zj (i := 8) (v := γ #[σ sq2 L2.length cq2]) rfl (by kernel_rfl) (by kernel_rfl) (fun _ _ _ h => by cases h.1) _ (by kernel_rfl) (by kernel_rfl) (Or.inl ⟨by rfl, ?_⟩) trivial (fun _ => SB2.out) ?_
     ·intro w' _
      go_simp
     try simp only [aP, sT, sZ, sS]
     refine zj (i := 9) (v := γ #[O ι st1, σ sA2 xs2.length cA2, σ sB2 ss2.length cB2, O ι off2]) rfl (by kernel_rfl) (by kernel_rfl) (fun _ _ _ h => by cases h.1) _ (by kernel_rfl) (by kernel_rfl) (Or.inl ⟨by rfl, ?_⟩) trivial (fun _ => SB2.out) ?_
     ·intro w' _
      go_simp
     try simp only [aP, sT, sZ, sS]
     refine zi (i := 10) (by kernel_rfl) rfl (fun K hK => ?_)
     go_simp
     have PA3 : Hid (PBx w (U2.alloc (χ #[O ι 0, σ none 0 0, σ none 0 0, O ι 0] 30)) H b (σ sq2 L2.length cq2) L2 [(w.heap.size, 25, [σ none 0 0]), (w.heap.size + 1, 30, [O ι 0, σ none 0 0, σ none 0 0, O ι 0]), (w.heap.size + 1 + 1, 30, [O ι 0, σ none 0 0, σ none 0 0, O ι 0]), (w.heap.size + 1 + 1 + 1, 30, [O ι 0, σ none 0 0, σ none 0 0, O ι 0]), (k7, 25, [σ sq L.length cq]), (U2.heap.size, 30, [O ι 0, σ none 0 0, σ none 0 0, O ι 0])]) := by
      show PBx _ _ _ _ _ _ _
      have := PU2.out.new #[O ι 0, σ none 0 0, σ none 0 0, O ι 0] 30 (Or.inr rfl)
      simpa using this
     have IY3 := hide (IY2.out.bel ((Below.refl U2.heap.size U2).alloc (Nat.le_refl _) (χ #[O ι 0, σ none 0 0, σ none 0 0, O ι 0] 30)))
     have LO3 := hide (LO2.out.bel ((Below.refl U2.heap.size U2).alloc (Nat.le_refl _) (χ #[O ι 0, σ none 0 0, σ none 0 0, O ι 0] 30)))
     have AD3 := hide (AD2.out.bel ((Below.refl U2.heap.size U2).alloc (Nat.le_refl _) (χ #[O ι 0, σ none 0 0, σ none 0 0, O ι 0] 30)))
     have SB3 : Hid ((fun w' : World => w'.cell? ⟨k7, 0, none⟩ = some (σ sq L.length cq)) (U2.alloc (χ #[O ι 0, σ none 0 0, σ none 0 0, O ι 0] 30))) := (show Bx _ k7 25 [σ sq L.length cq] from (PA3.out.bx 4 _ rfl).1).cell 0 rfl
     refine hK.out _ _ trivial (fun _ => SB3.out) ?_
     clear hK K
     try simp only [aP, sT, sZ, sS]
     generalize hk93 : U2.heap.size = k9 at PA3 ⊢
     generalize (U2.alloc (χ #[O ι 0, σ none 0 0, σ none 0 0, O ι 0] 30)) = V3 at PA3 IY3 LO3 AD3 SB3 ⊢
     clear hk93
     refine zi (i := 11) (by kernel_rfl) rfl (fun K hK => ?_)
     have q7 := (show Bx _ k7 25 [σ sq L.length cq] from (PA3.out.bx 4 _ rfl).1)
     have c7 := q7.cell 0 rfl
     have f7 := q7.fz 0
     go_simp
     have PX : Hid (PBx w (V3.setCell ⟨k7, 0, none⟩ (σ sq2 L2.length cq2)) H b (σ sq2 L2.length cq2) L2 [(w.heap.size, 25, [σ none 0 0]), (w.heap.size + 1, 30, [O ι 0, σ none 0 0, σ none 0 0, O ι 0]), (w.heap.size + 1 + 1, 30, [O ι 0, σ none 0 0, σ none 0 0, O ι 0]), (w.heap.size + 1 + 1 + 1, 30, [O ι 0, σ none 0 0, σ none 0 0, O ι 0]), (k7, 25, [σ sq2 L2.length cq2]), (k9, 30, [O ι 0, σ none 0 0, σ none 0 0, O ι 0])]) := PA3.out.set 4 rfl 0 (σ sq2 L2.length cq2)
     have IYx := hide (IY3.out.box (o := 0) (u := σ sq2 L2.length cq2) q7 (by decide))
     have LOx := hide (LO3.out.box (o := 0) (u := σ sq2 L2.length cq2) q7 (by decide))
     have ADx := hide (AD3.out.box (o := 0) (u := σ sq2 L2.length cq2) q7 (by decide))
     clear q7 c7 f7
     refine hK.out _ _ trivial (fun h => absurd (show true = false from h.symm.trans (by kernel_rfl)) Bool.noConfusion) ?_
     clear hK K
     try simp only [aP, sT, sZ, sS]
     generalize V3.setCell ⟨k7, 0, none⟩ (σ sq2 L2.length cq2) = Vx at PX IYx LOx ADx ⊢
     refine zi (i := 12) (by kernel_rfl) rfl (fun K hK => ?_)
     have q9 := (show Bx _ k9 30 [O ι 0, σ none 0 0, σ none 0 0, O ι 0] from (PX.out.bx 5 _ rfl).1)
     have c90 := q9.cell 0 rfl
     have c91 := q9.cell 1 rfl
     have c92 := q9.cell 2 rfl
     have c93 := q9.cell 3 rfl
     have f9 := fun o => q9.fz o
     go_simp
     have PZ0 : PBx w (Vx.setCell ⟨k9, 0, none⟩ (O ι st1)) H b (σ sq2 L2.length cq2) L2 [(w.heap.size, 25, [σ none 0 0]), (w.heap.size + 1, 30, [O ι 0, σ none 0 0, σ none 0 0, O ι 0]), (w.heap.size + 1 + 1, 30, [O ι 0, σ none 0 0, σ none 0 0, O ι 0]), (w.heap.size + 1 + 1 + 1, 30, [O ι 0, σ none 0 0, σ none 0 0, O ι 0]), (k7, 25, [σ sq2 L2.length cq2]), (k9, 30, [O ι st1, σ none 0 0, σ none 0 0, O ι 0])] := PX.out.set 5 rfl 0 (O ι st1)
     have PZ1 : PBx w ((Vx.setCell ⟨k9, 0, none⟩ (O ι st1)).setCell ⟨k9, 1, none⟩ (σ sA2 xs2.length cA2)) H b (σ sq2 L2.length cq2) L2 [(w.heap.size, 25, [σ none 0 0]), (w.heap.size + 1, 30, [O ι 0, σ none 0 0, σ none 0 0, O ι 0]), (w.heap.size + 1 + 1, 30, [O ι 0, σ none 0 0, σ none 0 0, O ι 0]), (w.heap.size + 1 + 1 + 1, 30, [O ι 0, σ none 0 0, σ none 0 0, O ι 0]), (k7, 25, [σ sq2 L2.length cq2]), (k9, 30, [O ι st1, σ sA2 xs2.length cA2, σ none 0 0, O ι 0])] := PZ0.set 5 rfl 1 (σ sA2 xs2.length cA2)
     have PZ2 : PBx w (((Vx.setCell ⟨k9, 0, none⟩ (O ι st1)).setCell ⟨k9, 1, none⟩ (σ sA2 xs2.length cA2)).setCell ⟨k9, 2, none⟩ (σ sB2 ss2.length cB2)) H b (σ sq2 L2.length cq2) L2 [(w.heap.size, 25, [σ none 0 0]), (w.heap.size + 1, 30, [O ι 0, σ none 0 0, σ none 0 0, O ι 0]), (w.heap.size + 1 + 1, 30, [O ι 0, σ none 0 0, σ none 0 0, O ι 0]), (w.heap.size + 1 + 1 + 1, 30, [O ι 0, σ none 0 0, σ none 0 0, O ι 0]), (k7, 25, [σ sq2 L2.length cq2]), (k9, 30, [O ι st1, σ sA2 xs2.length cA2, σ sB2 ss2.length cB2, O ι 0])] := PZ1.set 5 rfl 2 (σ sB2 ss2.length cB2)
     have PZ3 : PBx w ((((Vx.setCell ⟨k9, 0, none⟩ (O ι st1)).setCell ⟨k9, 1, none⟩ (σ sA2 xs2.length cA2)).setCell ⟨k9, 2, none⟩ (σ sB2 ss2.length cB2)).setCell ⟨k9, 3, none⟩ (O ι off2)) H b (σ sq2 L2.length cq2) L2 [(w.heap.size, 25, [σ none 0 0]), (w.heap.size + 1, 30, [O ι 0, σ none 0 0, σ none 0 0, O ι 0]), (w.heap.size + 1 + 1, 30, [O ι 0, σ none 0 0, σ none 0 0, O ι 0]), (w.heap.size + 1 + 1 + 1, 30, [O ι 0, σ none 0 0, σ none 0 0, O ι 0]), (k7, 25, [σ sq2 L2.length cq2]), (k9, 30, [O ι st1, σ sA2 xs2.length cA2, σ sB2 ss2.length cB2, O ι off2])] := PZ2.set 5 rfl 3 (O ι off2)
     have q90 := q9.set 0 (O ι st1)
     have q91 := q90.set 1 (σ sA2 xs2.length cA2)
     have q92 := q91.set 2 (σ sB2 ss2.length cB2)
     have IYy := hide ((((IYx.out.box (o := 0) (u := O ι st1) q9 (by decide)).box (o := 1) (u := σ sA2 xs2.length cA2) q90 (by decide)).box (o := 2) (u := σ sB2 ss2.length cB2) q91 (by decide)).box (o := 3) (u := O ι off2) q92 (by decide))
     have LOy := hide ((((LOx.out.box (o := 0) (u := O ι st1) q9 (by decide)).box (o := 1) (u := σ sA2 xs2.length cA2) q90 (by decide)).box (o := 2) (u := σ sB2 ss2.length cB2) q91 (by decide)).box (o := 3) (u := O ι off2) q92 (by decide))
     have ADy := hide ((((ADx.out.box (o := 0) (u := O ι st1) q9 (by decide)).box (o := 1) (u := σ sA2 xs2.length cA2) q90 (by decide)).box (o := 2) (u := σ sB2 ss2.length cB2) q91 (by decide)).box (o := 3) (u := O ι off2) q92 (by decide))
     have PY := hide PZ3
     clear PZ0 PZ1 PZ2 PZ3 q9 q90 q91 q92 c90 c91 c92 c93 f9
     refine hK.out _ _ trivial (fun h => absurd (show true = false from h.symm.trans (by kernel_rfl)) Bool.noConfusion) ?_
     clear hK K
     try simp only [aP, sT, sZ, sS]
     generalize ((((Vx.setCell ⟨k9, 0, none⟩ (O ι st1)).setCell ⟨k9, 1, none⟩ (σ sA2 xs2.length cA2)).setCell ⟨k9, 2, none⟩ (σ sB2 ss2.length cB2)).setCell ⟨k9, 3, none⟩ (O ι off2)) = Vy at PY IYy LOy ADy ⊢
     refine zd1 (by kernel_rfl) ?_ _
     refine ⟨rfl, ?_⟩
     go_wp2_with fail
     go_meet
     case rel => exact ⟨k9, _, _, L2, st1, _, _, _, _, xs2, ss2, off2, rfl, PY.out, HO2.out, HL2.out.trans hLq.symm, by omega, ADy.out, IYy.out⟩
    ·refine ⟨_, rfl, fun K hK => ?_⟩
     go_simp
     have PA4 : Hid (PBx w (U1.alloc (χ #[O ι 0, σ none 0 0, σ none 0 0, O ι 0] 30)) H b (σ sq L.length cq) L [(w.heap.size, 25, [σ none 0 0]), (w.heap.size + 1, 30, [O ι 0, σ none 0 0, σ none 0 0, O ι 0]), (w.heap.size + 1 + 1, 30, [O ι 0, σ none 0 0, σ none 0 0, O ι 0]), (w.heap.size + 1 + 1 + 1, 30, [O ι 0, σ none 0 0, σ none 0 0, O ι 0]), (k7, 25, [σ sq L.length cq]), (U1.heap.size, 30, [O ι 0, σ none 0 0, σ none 0 0, O ι 0])]) := by
      show PBx _ _ _ _ _ _ _
      have := PU1.out.new #[O ι 0, σ none 0 0, σ none 0 0, O ι 0] 30 (Or.inr rfl)
      simpa using this
     have IY4 := hide (IY1.out.bel ((Below.refl U1.heap.size U1).alloc (Nat.le_refl _) (χ #[O ι 0, σ none 0 0, σ none 0 0, O ι 0] 30)))
     have LO4 := hide (LO1.out.bel ((Below.refl U1.heap.size U1).alloc (Nat.le_refl _) (χ #[O ι 0, σ none 0 0, σ none 0 0, O ι 0] 30)))
     have SB4 : Hid ((fun w' : World => w'.cell? ⟨k7, 0, none⟩ = some (σ sq L.length cq)) (U1.alloc (χ #[O ι 0, σ none 0 0, σ none 0 0, O ι 0] 30))) := (show Bx _ k7 25 [σ sq L.length cq] from (PA4.out.bx 4 _ rfl).1).cell 0 rfl
     refine hK.out _ _ trivial (fun _ => SB4.out) ?_
     clear hK K
     try simp only [aP, sT, sZ, sS]
     generalize hk94 : U1.heap.size = k9 at PA4 ⊢
     generalize (U1.alloc (χ #[O ι 0, σ none 0 0, σ none 0 0, O ι 0] 30)) = V4 at PA4 IY4 LO4 SB4 ⊢
     clear hk94
     refine zi (i := 6) (by kernel_rfl) rfl (fun K hK => ?_)
     go_simp
     refine (zy2 PA4.out.sf PA4.out.dh PA4.out.dg HO.out IY4.out.ik HSM.out hstl1).mono ?_
     rintro e U5 ⟨svv5, L5, vA5, vB5, xs5, ss5, off5, rfl, hD5, hG5, hO5, hL5, hV5, hlx5, hls5, sU5⟩
     obtain ⟨sq5, cq5, rfl⟩ := hD5.form
     obtain ⟨sA5, cA5, rfl, _⟩ := zh hV5.a
     obtain ⟨sB5, cB5, rfl, _⟩ := zh hV5.c
     have PU5 := hide (PA4.out.kf sU5.kf sU5.src hD5 hG5)
     have AD5 : Hid (AD U5 lo (σ sA5 xs5.length cA5) (σ sB5 ss5.length cB5) xs5 ss5) := ⟨hV5.low LO4.out, hlx5, hls5⟩
     have HO5 := hide hO5
     have HL5 := hide hL5
     have hbl : b < lo := by omega
     have IY5 := hide (IY4.out.kf sU5.kf hbH)
     have LO5 := hide (LO4.out.kf sU5.kf hbH)
     clear sU5 hD5 hG5 hO5 hL5 hV5 hlx5 hls5
     have SB5 : Hid ((fun w' : World => w'.cell? ⟨k7, 0, none⟩ = some (σ sq L.length cq)) U5) := (show Bx _ k7 25 [σ sq L.length cq] from (PU5.out.bx 4 _ rfl).1).cell 0 rfl
     refine hK.out _ _ trivial (fun _ => SB5.out) ?_
     clear hK K
     try simp only [aP, sT, sZ, sS]
     refine zj (i := 7) (v := .tuple #[γ #[σ sq5 L5.length cq5], γ #[O ι st1, σ sA5 xs5.length cA5, σ sB5 ss5.length cB5, O ι off5]]) rfl (by kernel_rfl) (by kernel_rfl) (fun _ _ _ h => by cases h.1) _ (by kernel_rfl) (by kernel_rfl) (Or.inl ⟨by rfl, ?_⟩) trivial (fun _ => SB5.out) ?_
     ·intro w' _
      go_simp
     try simp only [aP, sT, sZ, sS]
     refine zj (i := 8) (v := γ #[σ sq5 L5.length cq5]) rfl (by kernel_rfl) (by kernel_rfl) (fun _ _ _ h => by cases h.1) _ (by kernel_rfl) (by kernel_rfl) (Or.inl ⟨by rfl, ?_⟩) trivial (fun _ => SB5.out) ?_
     ·intro w' _
      go_simp
     try simp only [aP, sT, sZ, sS]
     refine zj (i := 9) (v := γ #[O ι st1, σ sA5 xs5.length cA5, σ sB5 ss5.length cB5, O ι off5]) rfl (by kernel_rfl) (by kernel_rfl) (fun _ _ _ h => by cases h.1) _ (by kernel_rfl) (by kernel_rfl) (Or.inl ⟨by rfl, ?_⟩) trivial (fun _ => SB5.out) ?_
     ·intro w' _
      go_simp
     try simp only [aP, sT, sZ, sS]
     refine zi (i := 11) (by kernel_rfl) rfl (fun K hK => ?_)
     have q7 := (show Bx _ k7 25 [σ sq L.length cq] from (PU5.out.bx 4 _ rfl).1)
     have c7 := q7.cell 0 rfl
     have f7 := q7.fz 0
     go_simp
     have PX : Hid (PBx w (U5.setCell ⟨k7, 0, none⟩ (σ sq5 L5.length cq5)) H b (σ sq5 L5.length cq5) L5 [(w.heap.size, 25, [σ none 0 0]), (w.heap.size + 1, 30, [O ι 0, σ none 0 0, σ none 0 0, O ι 0]), (w.heap.size + 1 + 1, 30, [O ι 0, σ none 0 0, σ none 0 0, O ι 0]), (w.heap.size + 1 + 1 + 1, 30, [O ι 0, σ none 0 0, σ none 0 0, O ι 0]), (k7, 25, [σ sq5 L5.length cq5]), (k9, 30, [O ι 0, σ none 0 0, σ none 0 0, O ι 0])]) := PU5.out.set 4 rfl 0 (σ sq5 L5.length cq5)
     have IYx := hide (IY5.out.box (o := 0) (u := σ sq5 L5.length cq5) q7 (by decide))
     have LOx := hide (LO5.out.box (o := 0) (u := σ sq5 L5.length cq5) q7 (by decide))
     have ADx := hide (AD5.out.box (o := 0) (u := σ sq5 L5.length cq5) q7 (by decide))
     clear q7 c7 f7
     refine hK.out _ _ trivial (fun h => absurd (show true = false from h.symm.trans (by kernel_rfl)) Bool.noConfusion) ?_
     clear hK K
     try simp only [aP, sT, sZ, sS]
     generalize U5.setCell ⟨k7, 0, none⟩ (σ sq5 L5.length cq5) = Vx at PX IYx LOx ADx ⊢
     refine zi (i := 12) (by kernel_rfl) rfl (fun K hK => ?_)
     have q9 := (show Bx _ k9 30 [O ι 0, σ none 0 0, σ none 0 0, O ι 0] from (PX.out.bx 5 _ rfl).1)
     have c90 := q9.cell 0 rfl
     have c91 := q9.cell 1 rfl
     have c92 := q9.cell 2 rfl
     have c93 := q9.cell 3 rfl
     have f9 := fun o => q9.fz o
     go_simp
     have PZ0 : PBx w (Vx.setCell ⟨k9, 0, none⟩ (O ι st1)) H b (σ sq5 L5.length cq5) L5 [(w.heap.size, 25, [σ none 0 0]), (w.heap.size + 1, 30, [O ι 0, σ none 0 0, σ none 0 0, O ι 0]), (w.heap.size + 1 + 1, 30, [O ι 0, σ none 0 0, σ none 0 0, O ι 0]), (w.heap.size + 1 + 1 + 1, 30, [O ι 0, σ none 0 0, σ none 0 0, O ι 0]), (k7, 25, [σ sq5 L5.length cq5]), (k9, 30, [O ι st1, σ none 0 0, σ none 0 0, O ι 0])] := PX.out.set 5 rfl 0 (O ι st1)
     have PZ1 : PBx w ((Vx.setCell ⟨k9, 0, none⟩ (O ι st1)).setCell ⟨k9, 1, none⟩ (σ sA5 xs5.length cA5)) H b (σ sq5 L5.length cq5) L5 [(w.heap.size, 25, [σ none 0 0]), (w.heap.size + 1, 30, [O ι 0, σ none 0 0, σ none 0 0, O ι 0]), (w.heap.size + 1 + 1, 30, [O ι 0, σ none 0 0, σ none 0 0, O ι 0]), (w.heap.size + 1 + 1 + 1, 30, [O ι 0, σ none 0 0, σ none 0 0, O ι 0]), (k7, 25, [σ sq5 L5.length cq5]), (k9, 30, [O ι st1, σ sA5 xs5.length cA5, σ none 0 0, O ι 0])] := PZ0.set 5 rfl 1 (σ sA5 xs5.length cA5)
     have PZ2 : PBx w (((Vx.setCell ⟨k9, 0, none⟩ (O ι st1)).setCell ⟨k9, 1, none⟩ (σ sA5 xs5.length cA5)).setCell ⟨k9, 2, none⟩ (σ sB5 ss5.length cB5)) H b (σ sq5 L5.length cq5) L5 [(w.heap.size, 25, [σ none 0 0]), (w.heap.size + 1, 30, [O ι 0, σ none 0 0, σ none 0 0, O ι 0]), (w.heap.size + 1 + 1, 30, [O ι 0, σ none 0 0, σ none 0 0, O ι 0]), (w.heap.size + 1 + 1 + 1, 30, [O ι 0, σ none 0 0, σ none 0 0, O ι 0]), (k7, 25, [σ sq5 L5.length cq5]), (k9, 30, [O ι st1, σ sA5 xs5.length cA5, σ sB5 ss5.length cB5, O ι 0])] := PZ1.set 5 rfl 2 (σ sB5 ss5.length cB5)
     have PZ3 : PBx w ((((Vx.setCell ⟨k9, 0, none⟩ (O ι st1)).setCell ⟨k9, 1, none⟩ (σ sA5 xs5.length cA5)).setCell ⟨k9, 2, none⟩ (σ sB5 ss5.length cB5)).setCell ⟨k9, 3, none⟩ (O ι off5)) H b (σ sq5 L5.length cq5) L5 [(w.heap.size, 25, [σ none 0 0]), (w.heap.size + 1, 30, [O ι 0, σ none 0 0, σ none 0 0, O ι 0]), (w.heap.size + 1 + 1, 30, [O ι 0, σ none 0 0, σ none 0 0, O ι 0]), (w.heap.size + 1 + 1 + 1, 30, [O ι 0, σ none 0 0, σ none 0 0, O ι 0]), (k7, 25, [σ sq5 L5.length cq5]), (k9, 30, [O ι st1, σ sA5 xs5.length cA5, σ sB5 ss5.length cB5, O ι off5])] := PZ2.set 5 rfl 3 (O ι off5)
     have q90 := q9.set 0 (O ι st1)
     have q91 := q90.set 1 (σ sA5 xs5.length cA5)
     have q92 := q91.set 2 (σ sB5 ss5.length cB5)
     have IYy := hide ((((IYx.out.box (o := 0) (u := O ι st1) q9 (by decide)).box (o := 1) (u := σ sA5 xs5.length cA5) q90 (by decide)).box (o := 2) (u := σ sB5 ss5.length cB5) q91 (by decide)).box (o := 3) (u := O ι off5) q92 (by decide))
     have LOy := hide ((((LOx.out.box (o := 0) (u := O ι st1) q9 (by decide)).box (o := 1) (u := σ sA5 xs5.length cA5) q90 (by decide)).box (o := 2) (u := σ sB5 ss5.length cB5) q91 (by decide)).box (o := 3) (u := O ι off5) q92 (by decide))
     have ADy := hide ((((ADx.out.box (o := 0) (u := O ι st1) q9 (by decide)).box (o := 1) (u := σ sA5 xs5.length cA5) q90 (by decide)).box (o := 2) (u := σ sB5 ss5.length cB5) q91 (by decide)).box (o := 3) (u := O ι off5) q92 (by decide))
     have PY := hide PZ3
     clear PZ0 PZ1 PZ2 PZ3 q9 q90 q91 q92 c90 c91 c92 c93 f9
     refine hK.out _ _ trivial (fun h => absurd (show true = false from h.symm.trans (by kernel_rfl)) Bool.noConfusion) ?_
     clear hK K
     try simp only [aP, sT, sZ, sS]
     generalize ((((Vx.setCell ⟨k9, 0, none⟩ (O ι st1)).setCell ⟨k9, 1, none⟩ (σ sA5 xs5.length cA5)).setCell ⟨k9, 2, none⟩ (σ sB5 ss5.length cB5)).setCell ⟨k9, 3, none⟩ (O ι off5)) = Vy at PY IYy LOy ADy ⊢
     refine zd1 (by kernel_rfl) ?_ _
     refine ⟨rfl, ?_⟩
     go_wp2_with fail
     go_meet
     case rel => exact ⟨k9, _, _, L5, st1, _, _, _, _, xs5, ss5, off5, rfl, PY.out, HO5.out, HL5.out.trans hLq.symm, by omega, ADy.out, IYy.out⟩
   ·refine ⟨_, rfl, fun K hK => ?_⟩
    go_simp
    have PA6 : Hid (PBx w (W4d.alloc (χ #[O ι 0, σ none 0 0, σ none 0 0, O ι 0] 30)) H b (σ sq L.length cq) L [(w.heap.size, 25, [σ none 0 0]), (w.heap.size + 1, 30, [O ι 0, σ none 0 0, σ none 0 0, O ι 0]), (w.heap.size + 1 + 1, 30, [O ι 0, σ none 0 0, σ none 0 0, O ι 0]), (w.heap.size + 1 + 1 + 1, 30, [O ι 0, σ none 0 0, σ none 0 0, O ι 0]), (k7, 25, [σ sq L.length cq]), (W4d.heap.size, 30, [O ι 0, σ none 0 0, σ none 0 0, O ι 0])]) := by
     show PBx _ _ _ _ _ _ _
     have := P4d.out.new #[O ι 0, σ none 0 0, σ none 0 0, O ι 0] 30 (Or.inr rfl)
     simpa using this
    have IY6 := hide (IY0.out.bel ((Below.refl W4d.heap.size W4d).alloc (Nat.le_refl _) (χ #[O ι 0, σ none 0 0, σ none 0 0, O ι 0] 30)))
    have LO6 := hide (LO0.out.bel ((Below.refl W4d.heap.size W4d).alloc (Nat.le_refl _) (χ #[O ι 0, σ none 0 0, σ none 0 0, O ι 0] 30)))
    have SB6 : Hid ((fun w' : World => w'.cell? ⟨k7, 0, none⟩ = some (σ sq L.length cq)) (W4d.alloc (χ #[O ι 0, σ none 0 0, σ none 0 0, O ι 0] 30))) := (show Bx _ k7 25 [σ sq L.length cq] from (PA6.out.bx 4 _ rfl).1).cell 0 rfl
    refine hK.out _ _ trivial (fun _ => SB6.out) ?_
    clear hK K
    try simp only [aP, sT, sZ, sS]
    generalize hk96 : W4d.heap.size = k9 at PA6 ⊢
    generalize (W4d.alloc (χ #[O ι 0, σ none 0 0, σ none 0 0, O ι 0] 30)) = V6 at PA6 IY6 LO6 SB6 ⊢
    clear hk96
    refine zi (i := 5) (by kernel_rfl) rfl (fun K hK => ?_)
    go_simp
    refine (zk1 PA6.out.sf PA6.out.dh (by have := PA6.out.dg.cnt; omega)).mono ?_
    rintro e U7 ⟨sti7, rfl, hst07, hst17, sU7, gU7⟩
    obtain ⟨st7, hste7⟩ : ∃ st7 : Nat, sti7 = (st7 : Int) := ⟨sti7.toNat, by omega⟩
    subst hste7
    have hstl7 : st7 < L.length := by omega
    have PU7 := hide (PA6.out.gb gU7 sU7.src)
    have IY7 := hide (IY6.out.kf sU7.kf hbH)
    have LO7 := hide (LO6.out.kf sU7.kf hbH)
    have SB7 : Hid ((fun w' : World => w'.cell? ⟨k7, 0, none⟩ = some (σ sq L.length cq)) U7) := (show Bx _ k7 25 [σ sq L.length cq] from (PU7.out.bx 4 _ rfl).1).cell 0 rfl
    clear sU7 gU7 hst07 hst17
    refine hK.out _ _ trivial (fun _ => SB7.out) ?_
    clear hK K
    try simp only [aP, sT, sZ, sS]
    refine zi (i := 6) (by kernel_rfl) rfl (fun K hK => ?_)
    go_simp
    refine (zy2 PU7.out.sf PU7.out.dh PU7.out.dg HO.out IY7.out.ik HSM.out hstl7).mono ?_
    rintro e U8 ⟨svv8, L8, vA8, vB8, xs8, ss8, off8, rfl, hD8, hG8, hO8, hL8, hV8, hlx8, hls8, sU8⟩
    obtain ⟨sq8, cq8, rfl⟩ := hD8.form
    obtain ⟨sA8, cA8, rfl, _⟩ := zh hV8.a
    obtain ⟨sB8, cB8, rfl, _⟩ := zh hV8.c
    have PU8 := hide (PU7.out.kf sU8.kf sU8.src hD8 hG8)
    have AD8 : Hid (AD U8 lo (σ sA8 xs8.length cA8) (σ sB8 ss8.length cB8) xs8 ss8) := ⟨hV8.low LO7.out, hlx8, hls8⟩
    have HO8 := hide hO8
    have HL8 := hide hL8
    have hbl : b < lo := by omega
    have IY8 := hide (IY7.out.kf sU8.kf hbH)
    have LO8 := hide (LO7.out.kf sU8.kf hbH)
    clear sU8 hD8 hG8 hO8 hL8 hV8 hlx8 hls8
    have SB8 : Hid ((fun w' : World => w'.cell? ⟨k7, 0, none⟩ = some (σ sq L.length cq)) U8) := (show Bx _ k7 25 [σ sq L.length cq] from (PU8.out.bx 4 _ rfl).1).cell 0 rfl
    refine hK.out _ _ trivial (fun _ => SB8.out) ?_
    clear hK K
    try simp only [aP, sT, sZ, sS]
    refine zj (i := 7) (v := .tuple #[γ #[σ sq8 L8.length cq8], γ #[O ι st7, σ sA8 xs8.length cA8, σ sB8 ss8.length cB8, O ι off8]]) rfl (by kernel_rfl) (by kernel_rfl) (fun _ _ _ h => by cases h.1) _ (by kernel_rfl) (by kernel_rfl) (Or.inl ⟨by rfl, ?_⟩) trivial (fun _ => SB8.out) ?_
    ·intro w' _
     go_simp
    try simp only [aP, sT, sZ, sS]
    refine zj (i := 8) (v := γ #[σ sq8 L8.length cq8]) rfl (by kernel_rfl) (by kernel_rfl) (fun _ _ _ h => by cases h.1) _ (by kernel_rfl) (by kernel_rfl) (Or.inl ⟨by rfl, ?_⟩) trivial (fun _ => SB8.out) ?_
    ·intro w' _
     go_simp
    try simp only [aP, sT, sZ, sS]
    refine zj (i := 9) (v := γ #[O ι st7, σ sA8 xs8.length cA8, σ sB8 ss8.length cB8, O ι off8]) rfl (by kernel_rfl) (by kernel_rfl) (fun _ _ _ h => by cases h.1) _ (by kernel_rfl) (by kernel_rfl) (Or.inl ⟨by rfl, ?_⟩) trivial (fun _ => SB8.out) ?_
    ·intro w' _
     go_simp
    try simp only [aP, sT, sZ, sS]
    refine zi (i := 11) (by kernel_rfl) rfl (fun K hK => ?_)
    have q7 := (show Bx _ k7 25 [σ sq L.length cq] from (PU8.out.bx 4 _ rfl).1)
    have c7 := q7.cell 0 rfl
    have f7 := q7.fz 0
    go_simp
    have PX : Hid (PBx w (U8.setCell ⟨k7, 0, none⟩ (σ sq8 L8.length cq8)) H b (σ sq8 L8.length cq8) L8 [(w.heap.size, 25, [σ none 0 0]), (w.heap.size + 1, 30, [O ι 0, σ none 0 0, σ none 0 0, O ι 0]), (w.heap.size + 1 + 1, 30, [O ι 0, σ none 0 0, σ none 0 0, O ι 0]), (w.heap.size + 1 + 1 + 1, 30, [O ι 0, σ none 0 0, σ none 0 0, O ι 0]), (k7, 25, [σ sq8 L8.length cq8]), (k9, 30, [O ι 0, σ none 0 0, σ none 0 0, O ι 0])]) := PU8.out.set 4 rfl 0 (σ sq8 L8.length cq8)
    have IYx := hide (IY8.out.box (o := 0) (u := σ sq8 L8.length cq8) q7 (by decide))
    have LOx := hide (LO8.out.box (o := 0) (u := σ sq8 L8.length cq8) q7 (by decide))
    have ADx := hide (AD8.out.box (o := 0) (u := σ sq8 L8.length cq8) q7 (by decide))
    clear q7 c7 f7
    refine hK.out _ _ trivial (fun h => absurd (show true = false from h.symm.trans (by kernel_rfl)) Bool.noConfusion) ?_
    clear hK K
    try simp only [aP, sT, sZ, sS]
    generalize U8.setCell ⟨k7, 0, none⟩ (σ sq8 L8.length cq8) = Vx at PX IYx LOx ADx ⊢
    refine zi (i := 12) (by kernel_rfl) rfl (fun K hK => ?_)
    have q9 := (show Bx _ k9 30 [O ι 0, σ none 0 0, σ none 0 0, O ι 0] from (PX.out.bx 5 _ rfl).1)
    have c90 := q9.cell 0 rfl
    have c91 := q9.cell 1 rfl
    have c92 := q9.cell 2 rfl
    have c93 := q9.cell 3 rfl
    have f9 := fun o => q9.fz o
    go_simp
    have PZ0 : PBx w (Vx.setCell ⟨k9, 0, none⟩ (O ι st7)) H b (σ sq8 L8.length cq8) L8 [(w.heap.size, 25, [σ none 0 0]), (w.heap.size + 1, 30, [O ι 0, σ none 0 0, σ none 0 0, O ι 0]), (w.heap.size + 1 + 1, 30, [O ι 0, σ none 0 0, σ none 0 0, O ι 0]), (w.heap.size + 1 + 1 + 1, 30, [O ι 0, σ none 0 0, σ none 0 0, O ι 0]), (k7, 25, [σ sq8 L8.length cq8]), (k9, 30, [O ι st7, σ none 0 0, σ none 0 0, O ι 0])] := PX.out.set 5 rfl 0 (O ι st7)
    have PZ1 : PBx w ((Vx.setCell ⟨k9, 0, none⟩ (O ι st7)).setCell ⟨k9, 1, none⟩ (σ sA8 xs8.length cA8)) H b (σ sq8 L8.length cq8) L8 [(w.heap.size, 25, [σ none 0 0]), (w.heap.size + 1, 30, [O ι 0, σ none 0 0, σ none 0 0, O ι 0]), (w.heap.size + 1 + 1, 30, [O ι 0, σ none 0 0, σ none 0 0, O ι 0]), (w.heap.size + 1 + 1 + 1, 30, [O ι 0, σ none 0 0, σ none 0 0, O ι 0]), (k7, 25, [σ sq8 L8.length cq8]), (k9, 30, [O ι st7, σ sA8 xs8.length cA8, σ none 0 0, O ι 0])] := PZ0.set 5 rfl 1 (σ sA8 xs8.length cA8)
    have PZ2 : PBx w (((Vx.setCell ⟨k9, 0, none⟩ (O ι st7)).setCell ⟨k9, 1, none⟩ (σ sA8 xs8.length cA8)).setCell ⟨k9, 2, none⟩ (σ sB8 ss8.length cB8)) H b (σ sq8 L8.length cq8) L8 [(w.heap.size, 25, [σ none 0 0]), (w.heap.size + 1, 30, [O ι 0, σ none 0 0, σ none 0 0, O ι 0]), (w.heap.size + 1 + 1, 30, [O ι 0, σ none 0 0, σ none 0 0, O ι 0]), (w.heap.size + 1 + 1 + 1, 30, [O ι 0, σ none 0 0, σ none 0 0, O ι 0]), (k7, 25, [σ sq8 L8.length cq8]), (k9, 30, [O ι st7, σ sA8 xs8.length cA8, σ sB8 ss8.length cB8, O ι 0])] := PZ1.set 5 rfl 2 (σ sB8 ss8.length cB8)
    have PZ3 : PBx w ((((Vx.setCell ⟨k9, 0, none⟩ (O ι st7)).setCell ⟨k9, 1, none⟩ (σ sA8 xs8.length cA8)).setCell ⟨k9, 2, none⟩ (σ sB8 ss8.length cB8)).setCell ⟨k9, 3, none⟩ (O ι off8)) H b (σ sq8 L8.length cq8) L8 [(w.heap.size, 25, [σ none 0 0]), (w.heap.size + 1, 30, [O ι 0, σ none 0 0, σ none 0 0, O ι 0]), (w.heap.size + 1 + 1, 30, [O ι 0, σ none 0 0, σ none 0 0, O ι 0]), (w.heap.size + 1 + 1 + 1, 30, [O ι 0, σ none 0 0, σ none 0 0, O ι 0]), (k7, 25, [σ sq8 L8.length cq8]), (k9, 30, [O ι st7, σ sA8 xs8.length cA8, σ sB8 ss8.length cB8, O ι off8])] := PZ2.set 5 rfl 3 (O ι off8)
    have q90 := q9.set 0 (O ι st7)
    have q91 := q90.set 1 (σ sA8 xs8.length cA8)
    have q92 := q91.set 2 (σ sB8 ss8.length cB8)
    have IYy := hide ((((IYx.out.box (o := 0) (u := O ι st7) q9 (by decide)).box (o := 1) (u := σ sA8 xs8.length cA8) q90 (by decide)).box (o := 2) (u := σ sB8 ss8.length cB8) q91 (by decide)).box (o := 3) (u := O ι off8) q92 (by decide))
    have LOy := hide ((((LOx.out.box (o := 0) (u := O ι st7) q9 (by decide)).box (o := 1) (u := σ sA8 xs8.length cA8) q90 (by decide)).box (o := 2) (u := σ sB8 ss8.length cB8) q91 (by decide)).box (o := 3) (u := O ι off8) q92 (by decide))
    have ADy := hide ((((ADx.out.box (o := 0) (u := O ι st7) q9 (by decide)).box (o := 1) (u := σ sA8 xs8.length cA8) q90 (by decide)).box (o := 2) (u := σ sB8 ss8.length cB8) q91 (by decide)).box (o := 3) (u := O ι off8) q92 (by decide))
    have PY := hide PZ3
    clear PZ0 PZ1 PZ2 PZ3 q9 q90 q91 q92 c90 c91 c92 c93 f9
    refine hK.out _ _ trivial (fun h => absurd (show true = false from h.symm.trans (by kernel_rfl)) Bool.noConfusion) ?_
    clear hK K
    try simp only [aP, sT, sZ, sS]
    generalize ((((Vx.setCell ⟨k9, 0, none⟩ (O ι st7)).setCell ⟨k9, 1, none⟩ (σ sA8 xs8.length cA8)).setCell ⟨k9, 2, none⟩ (σ sB8 ss8.length cB8)).setCell ⟨k9, 3, none⟩ (O ι off8)) = Vy at PY IYy LOy ADy ⊢
    refine zd1 (by kernel_rfl) ?_ _
    refine ⟨rfl, ?_⟩
    go_wp2_with fail
    go_meet
    case rel => exact ⟨k9, _, _, L8, st7, _, _, _, _, xs8, ss8, off8, rfl, PY.out, HO8.out, HL8.out.trans hLq.symm, by omega, ADy.out, IYy.out⟩
 case rest =>
 obtain ⟨k9, sq, cq, L, st, sA, zp23, cA, cB, xs, ss, off, rfl, hP, hO, hL, hst, hA, hI⟩ := hcut
 obtain ⟨W5, rfl⟩ : ∃ W5, W5 = wc := ⟨_, rfl⟩
 subst hlo
 have P5 := hide hP
 have HO5 := hide hO
 have HL5 := hide hL
 have A5 := hide hA
 have I5 := hide hI
 clear hP hO hL hA hI P4d IY0 LO0 HO hLq hHlo
 have q7 := (show Bx _ k7 25 [σ sq L.length cq] from (P5.out.bx 4 _ rfl).1)
 have c7 := q7.cell 0 rfl
 have q9 := (show Bx _ k9 30 [O ι st, σ sA xs.length cA, σ zp23 ss.length cB, O ι off] from (P5.out.bx 5 _ rfl).1)
 have c90 := q9.cell 0 rfl
 have c91 := q9.cell 1 rfl
 have c92 := q9.cell 2 rfl
 have c93 := q9.cell 3 rfl
 go_wp2_with fail
 refine (zs17 P5.out.sf P5.out.dh P5.out.dg HO5.out (by have := HL5.out; omega)).mono ?_
 rintro e W6 ⟨svt, Lt, rfl, hDt, hGt, hOt, hLt, sT⟩
 obtain ⟨sqt, cqt, rfl⟩ := hDt.form
 have P6 := hide (P5.out.kf sT.kf sT.src hDt hGt)
 have q76 := (show Bx _ k7 25 [σ sq L.length cq] from (P6.out.bx 4 _ rfl).1)
 have A6 := hide ((A5.out.kf sT.kf hbH).box (o := 0) (u := σ sqt Lt.length cqt) q76 (by decide))
 have I6 := hide ((I5.out.kf sT.kf hbH).box (o := 0) (u := σ sqt Lt.length cqt) q76 (by decide))
 have P7 : Hid (PBx w (W6.setCell ⟨k7, 0, none⟩ (σ sqt Lt.length cqt)) H b (σ sqt Lt.length cqt) Lt [(w.heap.size, 25, [σ none 0 0]), (w.heap.size + 1, 30, [O ι 0, σ none 0 0, σ none 0 0, O ι 0]), (w.heap.size + 1 + 1, 30, [O ι 0, σ none 0 0, σ none 0 0, O ι 0]), (w.heap.size + 1 + 1 + 1, 30, [O ι 0, σ none 0 0, σ none 0 0, O ι 0]), (k7, 25, [σ sqt Lt.length cqt]), (k9, 30, [O ι st, σ sA xs.length cA, σ zp23 ss.length cB, O ι off])]) := P6.out.set 4 rfl 0 (σ sqt Lt.length cqt)
 have c76 := q76.cell 0 rfl
 have f76 := q76.fz 0
 have HOt := hide hOt
 have HLt : Hid (Lt.length = Lq) := hLt.trans HL5.out
 clear q7 c7 q9 c90 c91 c92 c93 hDt hGt hOt hLt sT q76 P5 A5 I5 P6 HO5 HL5
 go_upto_region 5 with fail
 generalize W6.setCell ⟨k7, 0, none⟩ (σ sqt Lt.length cqt) = W4 at P7 A6 I6 ⊢
 clear c76 f76
 obtain ⟨L, hLe⟩ : ∃ L, L = Lt := ⟨_, rfl⟩
 subst hLe
 obtain ⟨sq, hse⟩ : ∃ sq, sq = sqt := ⟨_, rfl⟩
 subst hse
 obtain ⟨cq, hce⟩ : ∃ cq, cq = cqt := ⟨_, rfl⟩
 subst hce
 obtain ⟨loa, hloa⟩ : ∃ loa : Nat, loa = W4.heap.size := ⟨_, rfl⟩
 have hHla : H ≤ loa := by have := P7.out.size; omega
 have HOB : Hid (∀ j, ((Value.slice sA xs.length cA).ownBlock = some j → j < loa) ∧ ((Value.slice zp23 ss.length cB).ownBlock = some j → j < loa)) := fun j => ⟨fun e => by rw [hloa]; exact (A6.out.dv.a.lt j e).2, fun e => by rw [hloa]; exact (A6.out.dv.c.lt j e).2⟩
 have P4d := hide P7.out.drew
 have IY0 := hide (I6.out.bel (zz W4))
 have AO0 := hide (A6.out.bel (zz W4))
 have LO0 : Hid (LOk W4.drew loa) := by show loa ≤ W4.heap.size; omega
 have HO := hide HOt.out
 have hLq : Lq = L.length := HLt.out.symm
 have HLQ := hide hLq
 clear P7 I6 A6 HOt HLt hloa
 go_cut [10] (fun s10 wx => ∃ (k10 : Nat) (sq : Option Addr) (cq : Nat) (L : List Dst) (stx : Nat) (xA xB : Option Addr) (xcA xcB : Nat) (xx sx : List Int) (offx : Int), s10 = π (some ⟨k10, 0, none⟩) ∧ PBx w wx H b (σ sq L.length cq) L [(w.heap.size, 25, [σ none 0 0]), (w.heap.size + 1, 30, [O ι 0, σ none 0 0, σ none 0 0, O ι 0]), (w.heap.size + 1 + 1, 30, [O ι 0, σ none 0 0, σ none 0 0, O ι 0]), (w.heap.size + 1 + 1 + 1, 30, [O ι 0, σ none 0 0, σ none 0 0, O ι 0]), (k7, 25, [σ sq L.length cq]), (k9, 30, [O ι st, σ sA xs.length cA, σ zp23 ss.length cB, O ι off]), (k10, 30, [O ι stx, σ xA xx.length xcA, σ xB sx.length xcB, O ι offx])] ∧ DtOk L ∧ L.length = Lq ∧ stx < Lq ∧ AD wx loa (σ xA xx.length xcA) (σ xB sx.length xcB) xx sx ∧ IJ wx H (σ sy ys.length cy) ys ∧ AD wx H (σ sA xs.length cA) (σ zp23 ss.length cB) xs ss)
 case first =>
  as_aux_lemma =>
   have SA : Hid ((fun w' : World => w'.cell? ⟨k7, 0, none⟩ = some (σ sq L.length cq)) W4.drew) := (show Bx _ k7 25 [σ sq L.length cq] from (P4d.out.bx 4 _ rfl).1).cell 0 rfl
   refine zj9 (S := (fun w' : World => w'.cell? ⟨k7, 0, none⟩ = some (σ sq L.length cq))) (T := fun _ => True) (late := [13, 14]) (by kernel_rfl) ?_
   generalize W4.drew = W4d at SA P4d IY0 LO0 AO0 ⊢
   refine zr (i := 0) (v := γ #[σ sq L.length cq]) rfl (by kernel_rfl) (by kernel_rfl) (by kernel_rfl) (fun _ _ _ h => by cases h.1) _ (by kernel_rfl) (by kernel_rfl) (by kernel_rfl) (Or.inl ⟨by rfl, ?_⟩) trivial SA.out ?_
   ·intro w' z0
    go_simp
   try simp only [aP, sT, sZ, sS]
   refine zr (i := 1) (v := π (some ⟨b, 0, none⟩)) rfl (by kernel_rfl) (by kernel_rfl) (by kernel_rfl) (fun _ _ _ h => by cases h.1) _ (by kernel_rfl) (by kernel_rfl) (by kernel_rfl) (Or.inl ⟨by rfl, ?_⟩) trivial SA.out ?_
   ·intro w' z0
    go_simp
   try simp only [aP, sT, sZ, sS]
   refine zr (i := 2) (v := π (some ⟨b, 0, none⟩)) rfl (by kernel_rfl) (by kernel_rfl) (by kernel_rfl) (fun _ _ _ h => by cases h.1) _ (by kernel_rfl) (by kernel_rfl) (by kernel_rfl) (Or.inl ⟨by rfl, ?_⟩) trivial SA.out ?_
   ·intro w' z0
    go_simp
   try simp only [aP, sT, sZ, sS]
   refine zr (i := 3) (v := σ sy ys.length cy) rfl (by kernel_rfl) (by kernel_rfl) (by kernel_rfl) (fun _ _ _ h => by cases h.1) _ (by kernel_rfl) (by kernel_rfl) (by kernel_rfl) (Or.inl ⟨by rfl, ?_⟩) trivial SA.out ?_
   ·intro w' z0
    go_simp
   try simp only [aP, sT, sZ, sS]
   refine zr (i := 5) (v := γ #[σ sq L.length cq]) rfl (by kernel_rfl) (by kernel_rfl) (by kernel_rfl) (fun _ _ _ h => by cases h.1) _ (by kernel_rfl) (by kernel_rfl) (by kernel_rfl) (Or.inl ⟨by rfl, ?_⟩) trivial SA.out ?_
   ·intro w' z0
    go_simp
   try simp only [aP, sT, sZ, sS]
   refine zr (i := 6) (v := π (some ⟨b, 0, none⟩)) rfl (by kernel_rfl) (by kernel_rfl) (by kernel_rfl) (fun _ _ _ h => by cases h.1) _ (by kernel_rfl) (by kernel_rfl) (by kernel_rfl) (Or.inl ⟨by rfl, ?_⟩) trivial SA.out ?_
   ·intro w' z0
    go_simp
   try simp only [aP, sT, sZ, sS]
   refine zr1 (rs := [4, 12]) (by kernel_rfl) (by simp) (fun i hi => ?_)
   simp only [List.mem_cons, List.not_mem_nil, or_false] at hi
   rcases hi with rfl | rfl
   ·refine ⟨_, rfl, fun K hK => ?_⟩
    go_simp
    refine (zn8 P4d.out.sf (IY0.out).ik.ints HSM.out).mono ?_
    rintro e U1 ⟨vz1, zs1, rfl, hsz1, hIz1, sU1, gU1⟩
    have PU1 := hide (P4d.out.gb gU1 sU1.src)
    obtain ⟨sz1, cz1, rfl, hIo1⟩ := hIz1
    have HZM1 := hide hsz1
    have IY1 := hide (IY0.out.kf sU1.kf hbH)
    have LO1 := hide (LO0.out.kf sU1.kf hbH)
    have AO1 := hide (AO0.out.kf sU1.kf hbH)
    have IZ1 : Hid (IK U1 H (σ sz1 zs1.length cz1) zs1) := ⟨_, _, rfl, hIo1⟩
    have SB1 : Hid ((fun w' : World => w'.cell? ⟨k7, 0, none⟩ = some (σ sq L.length cq)) U1) := (show Bx _ k7 25 [σ sq L.length cq] from (PU1.out.bx 4 _ rfl).1).cell 0 rfl
    clear sU1 gU1 hsz1 hIo1
    refine hK.out _ _ trivial (fun _ => SB1.out) ?_
    clear hK K
    try simp only [aP, sT, sZ, sS]
    refine zr1 (rs := [7, 12]) (by kernel_rfl) (by simp) (fun i hi => ?_)
    simp only [List.mem_cons, List.not_mem_nil, or_false] at hi
    rcases hi with rfl | rfl
    ·refine ⟨_, rfl, fun K hK => ?_⟩
     go_simp
     refine (zk1 PU1.out.sf PU1.out.dh (by have := PU1.out.dg.cnt; omega)).mono ?_
     rintro e U2 ⟨sti2, rfl, hst02, hst12, sU2, gU2⟩
     obtain ⟨st2, hste2⟩ : ∃ st2 : Nat, sti2 = (st2 : Int) := ⟨sti2.toNat, by omega⟩
     subst hste2
     have hstl2 : st2 < L.length := by omega
     have PU2 := hide (PU1.out.gb gU2 sU2.src)
     have IY2 := hide (IY1.out.kf sU2.kf hbH)
     have LO2 := hide (LO1.out.kf sU2.kf hbH)
     have AO2 := hide (AO1.out.kf sU2.kf hbH)
     have IZ2 := hide (IZ1.out.kf sU2.kf hbH)
     have SB2 : Hid ((fun w' : World => w'.cell? ⟨k7, 0, none⟩ = some (σ sq L.length cq)) U2) := (show Bx _ k7 25 [σ sq L.length cq] from (PU2.out.bx 4 _ rfl).1).cell 0 rfl
     clear sU2 gU2 hst02 hst12
     refine hK.out _ _ trivial (fun _ => SB2.out) ?_
     clear hK K
     try simp only [aP, sT, sZ, sS]
     refine zr1 (rs := [8, 12]) (by kernel_rfl) (by simp) (fun i hi => ?_)
     simp only [List.mem_cons, List.not_mem_nil, or_false] at hi
     rcases hi with rfl | rfl
     ·refine ⟨_, rfl, fun K hK => ?_⟩
      go_simp
      refine (zy2 PU2.out.sf PU2.out.dh PU2.out.dg HO.out IZ2.out HZM1.out hstl2).mono ?_
      rintro e U3 ⟨svv3, L3, vA3, vB3, xs3, ss3, off3, rfl, hD3, hG3, hO3, hL3, hV3, hlx3, hls3, sU3⟩
      obtain ⟨sq3, cq3, rfl⟩ := hD3.form
      obtain ⟨sA3, cA3, rfl, _⟩ := zh hV3.a
      obtain ⟨sB3, cB3, rfl, _⟩ := zh hV3.c
      have PU3 := hide (PU2.out.kf sU3.kf sU3.src hD3 hG3)
      have AD3 : Hid (AD U3 loa (σ sA3 xs3.length cA3) (σ sB3 ss3.length cB3) xs3 ss3) := ⟨hV3.low LO2.out, hlx3, hls3⟩
      have HO3 := hide hO3
      have HL3 := hide hL3
      have hbl : b < loa := by omega
      have IY3 := hide (IY2.out.kf sU3.kf hbH)
      have LO3 := hide (LO2.out.kf sU3.kf hbH)
      have AO3 := hide (AO2.out.kf sU3.kf hbH)
      have IZ3 := hide (IZ2.out.kf sU3.kf hbH)
      clear sU3 hD3 hG3 hO3 hL3 hV3 hlx3 hls3
      have SB3 : Hid ((fun w' : World => w'.cell? ⟨k7, 0, none⟩ = some (σ sq L.length cq)) U3) := (show Bx _ k7 25 [σ sq L.length cq] from (PU3.out.bx 4 _ rfl).1).cell 0 rfl
      refine hK.out _ _ trivial (fun _ => SB3.out) ?_
      clear hK K
      try simp only [aP, sT, sZ, sS]
      refine zj (i := 9) (v := .tuple #[γ #[σ sq3 L3.length cq3], γ #[O ι st2, σ sA3 xs3.length cA3, σ sB3 ss3.length cB3, O ι off3]]) rfl (by kernel_rfl) (by kernel_rfl) (fun _ _ _ h => by cases h.1) _ (by kernel_rfl) (by kernel_rfl) (Or.inl ⟨by rfl, ?_⟩) trivial (fun _ => SB3.out) ?_
      ·intro w' _
       go_simp
      try simp only [aP, sT, sZ, sS]
      refine zj (i := 10) (v := γ #[σ sq3 L3.length cq3]) rfl (by kernel_rfl) (by kernel_rfl) (fun _ _ _ h => by cases h.1) _ (by kernel_rfl) (by kernel_rfl) (Or.inl ⟨by rfl, ?_⟩) trivial (fun _ => SB3.out) ?_
      ·intro w' _
       go_simp
      try simp only [aP, sT, sZ, sS]
      refine zj (i := 11) (v := γ #[O ι st2, σ sA3 xs3.length cA3, σ sB3 ss3.length cB3, O ι off3]) rfl (by kernel_rfl) (by kernel_rfl) (fun _ _ _ h => by cases h.1) _ (by kernel_rfl) (by kernel_rfl) (Or.inl ⟨by rfl, ?_⟩) trivial (fun _ => SB3.out) ?_
      ·intro w' _
       go_simp
      try simp only [aP, sT, sZ, sS]
      refine zi (i := 12) (by kernel_rfl) rfl (fun K hK => ?_)
      go_simp
      have PA4 : Hid (PBx w (U3.alloc (χ #[O ι 0, σ none 0 0, σ none 0 0, O ι 0] 30)) H b (σ sq3 L3.length cq3) L3 [(w.heap.size, 25, [σ none 0 0]), (w.heap.size + 1, 30, [O ι 0, σ none 0 0, σ none 0 0, O ι 0]), (w.heap.size + 1 + 1, 30, [O ι 0, σ none 0 0, σ none 0 0, O ι 0]), (w.heap.size + 1 + 1 + 1, 30, [O ι 0, σ none 0 0, σ none 0 0, O ι 0]), (k7, 25, [σ sq L.length cq]), (k9, 30, [O ι st, σ sA xs.length cA, σ zp23 ss.length cB, O ι off]), (U3.heap.size, 30, [O ι 0, σ none 0 0, σ none 0 0, O ι 0])]) := by
       show PBx _ _ _ _ _ _ _
       have := PU3.out.new #[O ι 0, σ none 0 0, σ none 0 0, O ι 0] 30 (Or.inr rfl)
       simpa using this
      have IY4 := hide (IY3.out.bel ((Below.refl U3.heap.size U3).alloc (Nat.le_refl _) (χ #[O ι 0, σ none 0 0, σ none 0 0, O ι 0] 30)))
      have LO4 := hide (LO3.out.bel ((Below.refl U3.heap.size U3).alloc (Nat.le_refl _) (χ #[O ι 0, σ none 0 0, σ none 0 0, O ι 0] 30)))
      have AO4 := hide (AO3.out.bel ((Below.refl U3.heap.size U3).alloc (Nat.le_refl _) (χ #[O ι 0, σ none 0 0, σ none 0 0, O ι 0] 30)))
      have AD4 := hide (AD3.out.bel ((Below.refl U3.heap.size U3).alloc (Nat.le_refl _) (χ #[O ι 0, σ none 0 0, σ none 0 0, O ι 0] 30)))
      have SB4 : Hid ((fun w' : World => w'.cell? ⟨k7, 0, none⟩ = some (σ sq L.length cq)) (U3.alloc (χ #[O ι 0, σ none 0 0, σ none 0 0, O ι 0] 30))) := (show Bx _ k7 25 [σ sq L.length cq] from (PA4.out.bx 4 _ rfl).1).cell 0 rfl
      refine hK.out _ _ trivial (fun _ => SB4.out) ?_
      clear hK K
      try simp only [aP, sT, sZ, sS]
      generalize hk94 : U3.heap.size = k10 at PA4 ⊢
      generalize (U3.alloc (χ #[O ι 0, σ none 0 0, σ none 0 0, O ι 0] 30)) = V4 at PA4 IY4 LO4 AO4 AD4 SB4 ⊢
      clear hk94
      refine zi (i := 13) (by kernel_rfl) rfl (fun K hK => ?_)
      have q7 := (show Bx _ k7 25 [σ sq L.length cq] from (PA4.out.bx 4 _ rfl).1)
      have c7 := q7.cell 0 rfl
      have f7 := q7.fz 0
      go_simp
      have PX : Hid (PBx w (V4.setCell ⟨k7, 0, none⟩ (σ sq3 L3.length cq3)) H b (σ sq3 L3.length cq3) L3 [(w.heap.size, 25, [σ none 0 0]), (w.heap.size + 1, 30, [O ι 0, σ none 0 0, σ none 0 0, O ι 0]), (w.heap.size + 1 + 1, 30, [O ι 0, σ none 0 0, σ none 0 0, O ι 0]), (w.heap.size + 1 + 1 + 1, 30, [O ι 0, σ none 0 0, σ none 0 0, O ι 0]), (k7, 25, [σ sq3 L3.length cq3]), (k9, 30, [O ι st, σ sA xs.length cA, σ zp23 ss.length cB, O ι off]), (k10, 30, [O ι 0, σ none 0 0, σ none 0 0, O ι 0])]) := PA4.out.set 4 rfl 0 (σ sq3 L3.length cq3)
      have IYx := hide (IY4.out.box (o := 0) (u := σ sq3 L3.length cq3) q7 (by decide))
      have LOx := hide (LO4.out.box (o := 0) (u := σ sq3 L3.length cq3) q7 (by decide))
      have AOx := hide (AO4.out.box (o := 0) (u := σ sq3 L3.length cq3) q7 (by decide))
      have ADx := hide (AD4.out.box (o := 0) (u := σ sq3 L3.length cq3) q7 (by decide))
      clear q7 c7 f7
      refine hK.out _ _ trivial (fun h => absurd (show true = false from h.symm.trans (by kernel_rfl)) Bool.noConfusion) ?_
      clear hK K
      try simp only [aP, sT, sZ, sS]
      generalize V4.setCell ⟨k7, 0, none⟩ (σ sq3 L3.length cq3) = Vx at PX IYx LOx AOx ADx ⊢
      refine zi (i := 14) (by kernel_rfl) rfl (fun K hK => ?_)
      have q9 := (show Bx _ k10 30 [O ι 0, σ none 0 0, σ none 0 0, O ι 0] from (PX.out.bx 6 _ rfl).1)
      have c90 := q9.cell 0 rfl
      have c91 := q9.cell 1 rfl
      have c92 := q9.cell 2 rfl
      have c93 := q9.cell 3 rfl
      have f9 := fun o => q9.fz o
      go_simp
      have PZ0 : PBx w (Vx.setCell ⟨k10, 0, none⟩ (O ι st2)) H b (σ sq3 L3.length cq3) L3 [(w.heap.size, 25, [σ none 0 0]), (w.heap.size + 1, 30, [O ι 0, σ none 0 0, σ none 0 0, O ι 0]), (w.heap.size + 1 + 1, 30, [O ι 0, σ none 0 0, σ none 0 0, O ι 0]), (w.heap.size + 1 + 1 + 1, 30, [O ι 0, σ none 0 0, σ none 0 0, O ι 0]), (k7, 25, [σ sq3 L3.length cq3]), (k9, 30, [O ι st, σ sA xs.length cA, σ zp23 ss.length cB, O ι off]), (k10, 30, [O ι st2, σ none 0 0, σ none 0 0, O ι 0])] := PX.out.set 6 rfl 0 (O ι st2)
      have PZ1 : PBx w ((Vx.setCell ⟨k10, 0, none⟩ (O ι st2)).setCell ⟨k10, 1, none⟩ (σ sA3 xs3.length cA3)) H b (σ sq3 L3.length cq3) L3 [(w.heap.size, 25, [σ none 0 0]), (w.heap.size + 1, 30, [O ι 0, σ none 0 0, σ none 0 0, O ι 0]), (w.heap.size + 1 + 1, 30, [O ι 0, σ none 0 0, σ none 0 0, O ι 0]), (w.heap.size + 1 + 1 + 1, 30, [O ι 0, σ none 0 0, σ none 0 0, O ι 0]), (k7, 25, [σ sq3 L3.length cq3]), (k9, 30, [O ι st, σ sA xs.length cA, σ zp23 ss.length cB, O ι off]), (k10, 30, [O ι st2, σ sA3 xs3.length cA3, σ none 0 0, O ι 0])] := PZ0.set 6 rfl 1 (σ sA3 xs3.length cA3)
      have PZ2 : PBx w (((Vx.setCell ⟨k10, 0, none⟩ (O ι st2)).setCell ⟨k10, 1, none⟩ (σ sA3 xs3.length cA3)).setCell ⟨k10, 2, none⟩ (σ sB3 ss3.length cB3)) H b (σ sq3 L3.length cq3) L3 [(w.heap.size, 25, [σ none 0 0]), (w.heap.size + 1, 30, [O ι 0, σ none 0 0, σ none 0 0, O ι 0]), (w.heap.size + 1 + 1, 30, [O ι 0, σ none 0 0, σ none 0 0, O ι 0]), (w.heap.size + 1 + 1 + 1, 30, [O ι 0, σ none 0 0, σ none 0 0, O ι 0]), (k7, 25, [σ sq3 L3.length cq3]), (k9, 30, [O ι st, σ sA xs.length cA, σ zp23 ss.length cB, O ι off]), (k10, 30, [O ι st2, σ sA3 xs3.length cA3, σ sB3 ss3.length cB3, O ι 0])] := PZ1.set 6 rfl 2 (σ sB3 ss3.length cB3)
      have PZ3 : PBx w ((((Vx.setCell ⟨k10, 0, none⟩ (O ι st2)).setCell ⟨k10, 1, none⟩ (σ sA3 xs3.length cA3)).setCell ⟨k10, 2, none⟩ (σ sB3 ss3.length cB3)).setCell ⟨k10, 3, none⟩ (O ι off3)) H b (σ sq3 L3.length cq3) L3 [(w.heap.size, 25, [σ none 0 0]), (w.heap.size + 1, 30, [O ι 0, σ none 0 0, σ none 0 0, O ι 0]), (w.heap.size + 1 + 1, 30, [O ι 0, σ none 0 0, σ none 0 0, O ι 0]), (w.heap.size + 1 + 1 + 1, 30, [O ι 0, σ none 0 0, σ none 0 0, O ι 0]), (k7, 25, [σ sq3 L3.length cq3]), (k9, 30, [O ι st, σ sA xs.length cA, σ zp23 ss.length cB, O ι off]), (k10, 30, [O ι st2, σ sA3 xs3.length cA3, σ sB3 ss3.length cB3, O ι off3])] := PZ2.set 6 rfl 3 (O ι off3)
      have q90 := q9.set 0 (O ι st2)
      have q91 := q90.set 1 (σ sA3 xs3.length cA3)
      have q92 := q91.set 2 (σ sB3 ss3.length cB3)
      have IYy := hide ((((IYx.out.box (o := 0) (u := O ι st2) q9 (by decide)).box (o := 1) (u := σ sA3 xs3.length cA3) q90 (by decide)).box (o := 2) (u := σ sB3 ss3.length cB3) q91 (by decide)).box (o := 3) (u := O ι off3) q92 (by decide))
      have LOy := hide ((((LOx.out.box (o := 0) (u := O ι st2) q9 (by decide)).box (o := 1) (u := σ sA3 xs3.length cA3) q90 (by decide)).box (o := 2) (u := σ sB3 ss3.length cB3) q91 (by decide)).box (o := 3) (u := O ι off3) q92 (by decide))
      have AOy := hide ((((AOx.out.box (o := 0) (u := O ι st2) q9 (by decide)).box (o := 1) (u := σ sA3 xs3.length cA3) q90 (by decide)).box (o := 2) (u := σ sB3 ss3.length cB3) q91 (by decide)).box (o := 3) (u := O ι off3) q92 (by decide))
      have ADy := hide ((((ADx.out.box (o := 0) (u := O ι st2) q9 (by decide)).box (o := 1) (u := σ sA3 xs3.length cA3) q90 (by decide)).box (o := 2) (u := σ sB3 ss3.length cB3) q91 (by decide)).box (o := 3) (u := O ι off3) q92 (by decide))
      have PY := hide PZ3
      clear PZ0 PZ1 PZ2 PZ3 q9 q90 q91 q92 c90 c91 c92 c93 f9
      refine hK.out _ _ trivial (fun h => absurd (show true = false from h.symm.trans (by kernel_rfl)) Bool.noConfusion) ?_
      clear hK K
      try simp only [aP, sT, sZ, sS]
      generalize ((((Vx.setCell ⟨k10, 0, none⟩ (O ι st2)).setCell ⟨k10, 1, none⟩ (σ sA3 xs3.length cA3)).setCell ⟨k10, 2, none⟩ (σ sB3 ss3.length cB3)).setCell ⟨k10, 3, none⟩ (O ι off3)) = Vy at PY IYy LOy AOy ADy ⊢
      refine zd1 (by kernel_rfl) ?_ _
      refine ⟨rfl, ?_⟩
      go_wp2_with fail
      go_meet
      case rel => exact ⟨k10, _, _, L3, st2, _, _, _, _, xs3, ss3, off3, rfl, PY.out, HO3.out, HL3.out.trans hLq.symm, by omega, ADy.out, IYy.out, AOy.out⟩
     ·refine ⟨_, rfl, fun K hK => ?_⟩
      go_simp
      have PA5 : Hid (PBx w (U2.alloc (χ #[O ι 0, σ none 0 0, σ none 0 0, O ι 0] 30)) H b (σ sq L.length cq) L [(w.heap.size, 25, [σ none 0 0]), (w.heap.size + 1, 30, [O ι 0, σ none 0 0, σ none 0 0, O ι 0]), (w.heap.size + 1 + 1, 30, [O ι 0, σ none 0 0, σ none 0 0, O ι 0]), (w.heap.size + 1 + 1 + 1, 30, [O ι 0, σ none 0 0, σ none 0 0, O ι 0]), (k7, 25, [σ sq L.length cq]), (k9, 30, [O ι st, σ sA xs.length cA, σ zp23 ss.length cB, O ι off]), (U2.heap.size, 30, [O ι 0, σ none 0 0, σ none 0 0, O ι 0])]) := by
       show PBx _ _ _ _ _ _ _
       have := PU2.out.new #[O ι 0, σ none 0 0, σ none 0 0, O ι 0] 30 (Or.inr rfl)
       simpa using this
      have IY5 := hide (IY2.out.bel ((Below.refl U2.heap.size U2).alloc (Nat.le_refl _) (χ #[O ι 0, σ none 0 0, σ none 0 0, O ι 0] 30)))
      have LO5 := hide (LO2.out.bel ((Below.refl U2.heap.size U2).alloc (Nat.le_refl _) (χ #[O ι 0, σ none 0 0, σ none 0 0, O ι 0] 30)))
      have AO5 := hide (AO2.out.bel ((Below.refl U2.heap.size U2).alloc (Nat.le_refl _) (χ #[O ι 0, σ none 0 0, σ none 0 0, O ι 0] 30)))
      have IZ5 := hide (IZ2.out.bel ((Below.refl U2.heap.size U2).alloc (Nat.le_refl _) (χ #[O ι 0, σ none 0 0, σ none 0 0, O ι 0] 30)))
      have SB5 : Hid ((fun w' : World => w'.cell? ⟨k7, 0, none⟩ = some (σ sq L.length cq)) (U2.alloc (χ #[O ι 0, σ none 0 0, σ none 0 0, O ι 0] 30))) := (show Bx _ k7 25 [σ sq L.length cq] from (PA5.out.bx 4 _ rfl).1).cell 0 rfl
      refine hK.out _ _ trivial (fun _ => SB5.out) ?_
      clear hK K
      try simp only [aP, sT, sZ, sS]
      generalize hk95 : U2.heap.size = k10 at PA5 ⊢
      generalize (U2.alloc (χ #[O ι 0, σ none 0 0, σ none 0 0, O ι 0] 30)) = V5 at PA5 IY5 LO5 AO5 IZ5 SB5 ⊢
      clear hk95
      refine zi (i := 8) (by kernel_rfl) rfl (fun K hK => ?_)
      go_simp
      refine (zy2 PA5.out.sf PA5.out.dh PA5.out.dg HO.out IZ5.out HZM1.out hstl2).mono ?_
      rintro e U6 ⟨svv6, L6, vA6, vB6, xs6, ss6, off6, rfl, hD6, hG6, hO6, hL6, hV6, hlx6, hls6, sU6⟩
      obtain ⟨sq6, cq6, rfl⟩ := hD6.form
      obtain ⟨sA6, cA6, rfl, _⟩ := zh hV6.a
      obtain ⟨sB6, cB6, rfl, _⟩ := zh hV6.c
      have PU6 := hide (PA5.out.kf sU6.kf sU6.src hD6 hG6)
      have AD6 : Hid (AD U6 loa (σ sA6 xs6.length cA6) (σ sB6 ss6.length cB6) xs6 ss6) := ⟨hV6.low LO5.out, hlx6, hls6⟩
      have HO6 := hide hO6
      have HL6 := hide hL6
      have hbl : b < loa := by omega
      have IY6 := hide (IY5.out.kf sU6.kf hbH)
      have LO6 := hide (LO5.out.kf sU6.kf hbH)
      have AO6 := hide (AO5.out.kf sU6.kf hbH)
      have IZ6 := hide (IZ5.out.kf sU6.kf hbH)
      clear sU6 hD6 hG6 hO6 hL6 hV6 hlx6 hls6
      have SB6 : Hid ((fun w' : World => w'.cell? ⟨k7, 0, none⟩ = some (σ sq L.length cq)) U6) := (show Bx _ k7 25 [σ sq L.length cq] from (PU6.out.bx 4 _ rfl).1).cell 0 rfl
      refine hK.out _ _ trivial (fun _ => SB6.out) ?_
      clear hK K
      try simp only [aP, sT, sZ, sS]
      refine zj (i := 9) (v := .tuple #[γ #[σ sq6 L6.length cq6], γ #[O ι st2, σ sA6 xs6.length cA6, σ sB6 ss6.length cB6, O ι off6]]) rfl (by kernel_rfl) (by kernel_rfl) (fun _ _ _ h => by cases h.1) _ (by kernel_rfl) (by kernel_rfl) (Or.inl ⟨by rfl, ?_⟩) trivial (fun _ => SB6.out) ?_
      ·intro w' _
       go_simp
      try simp only [aP, sT, sZ, sS]
      refine zj (i := 10) (v := γ #[σ sq6 L6.length cq6]) rfl (by kernel_rfl) (by kernel_rfl) (fun _ _ _ h => by cases h.1) _ (by kernel_rfl) (by kernel_rfl) (Or.inl ⟨by rfl, ?_⟩) trivial (fun _ => SB6.out) ?_
      ·intro w' _
       go_simp
      try simp only [aP, sT, sZ, sS]
      refine zj (i := 11) (v := γ #[O ι st2, σ sA6 xs6.length cA6, σ sB6 ss6.length cB6, O ι off6]) rfl (by kernel_rfl) (by kernel_rfl) (fun _ _ _ h => by cases h.1) _ (by kernel_rfl) (by kernel_rfl) (Or.inl ⟨by rfl, ?_⟩) trivial (fun _ => SB6.out) ?_
      ·intro w' _
       go_simp
      try simp only [aP, sT, sZ, sS]
      refine zi (i := 13) (by kernel_rfl) rfl (fun K hK => ?_)
      have q7 := (show Bx _ k7 25 [σ sq L.length cq] from (PU6.out.bx 4 _ rfl).1)
      have c7 := q7.cell 0 rfl
      have f7 := q7.fz 0
      go_simp
      have PX : Hid (PBx w (U6.setCell ⟨k7, 0, none⟩ (σ sq6 L6.length cq6)) H b (σ sq6 L6.length cq6) L6 [(w.heap.size, 25, [σ none 0 0]), (w.heap.size + 1, 30, [O ι 0, σ none 0 0, σ none 0 0, O ι 0]), (w.heap.size + 1 + 1, 30, [O ι 0, σ none 0 0, σ none 0 0, O ι 0]), (w.heap.size + 1 + 1 + 1, 30, [O ι 0, σ none 0 0, σ none 0 0, O ι 0]), (k7, 25, [σ sq6 L6.length cq6]), (k9, 30, [O ι st, σ sA xs.length cA, σ zp23 ss.length cB, O ι off]), (k10, 30, [O ι 0, σ none 0 0, σ none 0 0, O ι 0])]) := PU6.out.set 4 rfl 0 (σ sq6 L6.length cq6)
      have IYx := hide (IY6.out.box (o := 0) (u := σ sq6 L6.length cq6) q7 (by decide))
      have LOx := hide (LO6.out.box (o := 0) (u := σ sq6 L6.length cq6) q7 (by decide))
      have AOx := hide (AO6.out.box (o := 0) (u := σ sq6 L6.length cq6) q7 (by decide))
      have ADx := hide (AD6.out.box (o := 0) (u := σ sq6 L6.length cq6) q7 (by decide))
      clear q7 c7 f7
      refine hK.out _ _ trivial (fun h => absurd (show true = false from h.symm.trans (by kernel_rfl)) Bool.noConfusion) ?_
      clear hK K
      try simp only [aP, sT, sZ, sS]
      generalize U6.setCell ⟨k7, 0, none⟩ (σ sq6 L6.length cq6) = Vx at PX IYx LOx AOx ADx ⊢
      refine zi (i := 14) (by kernel_rfl) rfl (fun K hK => ?_)
      have q9 := (show Bx _ k10 30 [O ι 0, σ none 0 0, σ none 0 0, O ι 0] from (PX.out.bx 6 _ rfl).1)
      have c90 := q9.cell 0 rfl
      have c91 := q9.cell 1 rfl
      have c92 := q9.cell 2 rfl
      have c93 := q9.cell 3 rfl
      have f9 := fun o => q9.fz o
      go_simp
      have PZ0 : PBx w (Vx.setCell ⟨k10, 0, none⟩ (O ι st2)) H b (σ sq6 L6.length cq6) L6 [(w.heap.size, 25, [σ none 0 0]), (w.heap.size + 1, 30, [O ι 0, σ none 0 0, σ none 0 0, O ι 0]), (w.heap.size + 1 + 1, 30, [O ι 0, σ none 0 0, σ none 0 0, O ι 0]), (w.heap.size + 1 + 1 + 1, 30, [O ι 0, σ none 0 0, σ none 0 0, O ι 0]), (k7, 25, [σ sq6 L6.length cq6]), (k9, 30, [O ι st, σ sA xs.length cA, σ zp23 ss.length cB, O ι off]), (k10, 30, [O ι st2, σ none 0 0, σ none 0 0, O ι 0])] := PX.out.set 6 rfl 0 (O ι st2)
      have PZ1 : PBx w ((Vx.setCell ⟨k10, 0, none⟩ (O ι st2)).setCell ⟨k10, 1, none⟩ (σ sA6 xs6.length cA6)) H b (σ sq6 L6.length cq6) L6 [(w.heap.size, 25, [σ none 0 0]), (w.heap.size + 1, 30, [O ι 0, σ none 0 0, σ none 0 0, O ι 0]), (w.heap.size + 1 + 1, 30, [O ι 0, σ none 0 0, σ none 0 0, O ι 0]), (w.heap.size + 1 + 1 + 1, 30, [O ι 0, σ none 0 0, σ none 0 0, O ι 0]), (k7, 25, [σ sq6 L6.length cq6]), (k9, 30, [O ι st, σ sA xs.length cA, σ zp23 ss.length cB, O ι off]), (k10, 30, [O ι st2, σ sA6 xs6.length cA6, σ none 0 0, O ι 0])] := PZ0.set 6 rfl 1 (σ sA6 xs6.length cA6)
      have PZ2 : PBx w (((Vx.setCell ⟨k10, 0, none⟩ (O ι st2)).setCell ⟨k10, 1, none⟩ (σ sA6 xs6.length cA6)).setCell ⟨k10, 2, none⟩ (σ sB6 ss6.length cB6)) H b (σ sq6 L6.length cq6) L6 [(w.heap.size, 25, [σ none 0 0]), (w.heap.size + 1, 30, [O ι 0, σ none 0 0, σ none 0 0, O ι 0]), (w.heap.size + 1 + 1, 30, [O ι 0, σ none 0 0, σ none 0 0, O ι 0]), (w.heap.size + 1 + 1 + 1, 30, [O ι 0, σ none 0 0, σ none 0 0, O ι 0]), (k7, 25, [σ sq6 L6.length cq6]), (k9, 30, [O ι st, σ sA xs.length cA, σ zp23 ss.length cB, O ι off]), (k10, 30, [O ι st2, σ sA6 xs6.length cA6, σ sB6 ss6.length cB6, O ι 0])] := PZ1.set 6 rfl 2 (σ sB6 ss6.length cB6)
      have PZ3 : PBx w ((((Vx.setCell ⟨k10, 0, none⟩ (O ι st2)).setCell ⟨k10, 1, none⟩ (σ sA6 xs6.length cA6)).setCell ⟨k10, 2, none⟩ (σ sB6 ss6.length cB6)).setCell ⟨k10, 3, none⟩ (O ι off6)) H b (σ sq6 L6.length cq6) L6 [(w.heap.size, 25, [σ none 0 0]), (w.heap.size + 1, 30, [O ι 0, σ none 0 0, σ none 0 0, O ι 0]), (w.heap.size + 1 + 1, 30, [O ι 0, σ none 0 0, σ none 0 0, O ι 0]), (w.heap.size + 1 + 1 + 1, 30, [O ι 0, σ none 0 0, σ none 0 0, O ι 0]), (k7, 25, [σ sq6 L6.length cq6]), (k9, 30, [O ι st, σ sA xs.length cA, σ zp23 ss.length cB, O ι off]), (k10, 30, [O ι st2, σ sA6 xs6.length cA6, σ sB6 ss6.length cB6, O ι off6])] := PZ2.set 6 rfl 3 (O ι off6)
      have q90 := q9.set 0 (O ι st2)
      have q91 := q90.set 1 (σ sA6 xs6.length cA6)
      have q92 := q91.set 2 (σ sB6 ss6.length cB6)
      have IYy := hide ((((IYx.out.box (o := 0) (u := O ι st2) q9 (by decide)).box (o := 1) (u := σ sA6 xs6.length cA6) q90 (by decide)).box (o := 2) (u := σ sB6 ss6.length cB6) q91 (by decide)).box (o := 3) (u := O ι off6) q92 (by decide))
      have LOy := hide ((((LOx.out.box (o := 0) (u := O ι st2) q9 (by decide)).box (o := 1) (u := σ sA6 xs6.length cA6) q90 (by decide)).box (o := 2) (u := σ sB6 ss6.length cB6) q91 (by decide)).box (o := 3) (u := O ι off6) q92 (by decide))
      have AOy := hide ((((AOx.out.box (o := 0) (u := O ι st2) q9 (by decide)).box (o := 1) (u := σ sA6 xs6.length cA6) q90 (by decide)).box (o := 2) (u := σ sB6 ss6.length cB6) q91 (by decide)).box (o := 3) (u := O ι off6) q92 (by decide))
      have ADy := hide ((((ADx.out.box (o := 0) (u := O ι st2) q9 (by decide)).box (o := 1) (u := σ sA6 xs6.length cA6) q90 (by decide)).box (o := 2) (u := σ sB6 ss6.length cB6) q91 (by decide)).box (o := 3) (u := O ι off6) q92 (by decide))
      have PY := hide PZ3
      clear PZ0 PZ1 PZ2 PZ3 q9 q90 q91 q92 c90 c91 c92 c93 f9
      refine hK.out _ _ trivial (fun h => absurd (show true = false from h.symm.trans (by kernel_rfl)) Bool.noConfusion) ?_
      clear hK K
      try simp only [aP, sT, sZ, sS]
      generalize ((((Vx.setCell ⟨k10, 0, none⟩ (O ι st2)).setCell ⟨k10, 1, none⟩ (σ sA6 xs6.length cA6)).setCell ⟨k10, 2, none⟩ (σ sB6 ss6.length cB6)).setCell ⟨k10, 3, none⟩ (O ι off6)) = Vy at PY IYy LOy AOy ADy ⊢
      refine zd1 (by kernel_rfl) ?_ _
      refine ⟨rfl, ?_⟩
      go_wp2_with fail
      go_meet
      case rel => exact ⟨k10, _, _, L6, st2, _, _, _, _, xs6, ss6, off6, rfl, PY.out, HO6.out, HL6.out.trans hLq.symm, by omega, ADy.out, IYy.out, AOy.out⟩
    ·refine ⟨_, rfl, fun K hK => ?_⟩
     go_simp
     have PA7 : Hid (PBx w (U1.alloc (χ #[O ι 0, σ none 0 0, σ none 0 0, O ι 0] 30)) H b (σ sq L.length cq) L [(w.heap.size, 25, [σ none 0 0]), (w.heap.size + 1, 30, [O ι 0, σ none 0 0, σ none 0 0, O ι 0]), (w.heap.size + 1 + 1, 30, [O ι 0, σ none 0 0, σ none 0 0, O ι 0]), (w.heap.size + 1 + 1 + 1, 30, [O ι 0, σ none 0 0, σ none 0 0, O ι 0]), (k7, 25, [σ sq L.length cq]), (k9, 30, [O ι st, σ sA xs.length cA, σ zp23 ss.length cB, O ι off]), (U1.heap.size, 30, [O ι 0, σ none 0 0, σ none 0 0, O ι 0])]) := by
      show PBx _ _ _ _ _ _ _
      have := PU1.out.new #[O ι 0, σ none 0 0, σ none 0 0, O ι 0] 30 (Or.inr rfl)
      simpa using this
     have IY7 := hide (IY1.out.bel ((Below.refl U1.heap.size U1).alloc (Nat.le_refl _) (χ #[O ι 0, σ none 0 0, σ none 0 0, O ι 0] 30)))
     have LO7 := hide (LO1.out.bel ((Below.refl U1.heap.size U1).alloc (Nat.le_refl _) (χ #[O ι 0, σ none 0 0, σ none 0 0, O ι 0] 30)))
     have AO7 := hide (AO1.out.bel ((Below.refl U1.heap.size U1).alloc (Nat.le_refl _) (χ #[O ι 0, σ none 0 0, σ none 0 0, O ι 0] 30)))
     have IZ7 := hide (IZ1.out.bel ((Below.refl U1.heap.size U1).alloc (Nat.le_refl _) (χ #[O ι 0, σ none 0 0, σ none 0 0, O ι 0] 30)))
     have SB7 : Hid ((fun w' : World => w'.cell? ⟨k7, 0, none⟩ = some (σ sq L.length cq)) (U1.alloc (χ #[O ι 0, σ none 0 0, σ none 0 0, O ι 0] 30))) := (show Bx _ k7 25 [σ sq L.length cq] from (PA7.out.bx 4 _ rfl).1).cell 0 rfl
     refine hK.out _ _ trivial (fun _ => SB7.out) ?_
     clear hK K
     try simp only [aP, sT, sZ, sS]
     generalize hk97 : U1.heap.size = k10 at PA7 ⊢
     generalize (U1.alloc (χ #[O ι 0, σ none 0 0, σ none 0 0, O ι 0] 30)) = V7 at PA7 IY7 LO7 AO7 IZ7 SB7 ⊢
     clear hk97
     refine zi (i := 7) (by kernel_rfl) rfl (fun K hK => ?_)
     go_simp
     refine (zk1 PA7.out.sf PA7.out.dh (by have := PA7.out.dg.cnt; omega)).mono ?_
     rintro e U8 ⟨sti8, rfl, hst08, hst18, sU8, gU8⟩
     obtain ⟨st8, hste8⟩ : ∃ st8 : Nat, sti8 = (st8 : Int) := ⟨sti8.toNat, by omega⟩
     subst hste8
     have hstl8 : st8 < L.length := by omega
     have PU8 := hide (PA7.out.gb gU8 sU8.src)
     have IY8 := hide (IY7.out.kf sU8.kf hbH)
     have LO8 := hide (LO7.out.kf sU8.kf hbH)
     have AO8 := hide (AO7.out.kf sU8.kf hbH)
     have IZ8 := hide (IZ7.out.kf sU8.kf hbH)
     have SB8 : Hid ((fun w' : World => w'.cell? ⟨k7, 0, none⟩ = some (σ sq L.length cq)) U8) := (show Bx _ k7 25 [σ sq L.length cq] from (PU8.out.bx 4 _ rfl).1).cell 0 rfl
     clear sU8 gU8 hst08 hst18
     refine hK.out _ _ trivial (fun _ => SB8.out) ?_
     clear hK K
     try simp only [aP, sT, sZ, sS]
     refine zi (i := 8) (by kernel_rfl) rfl (fun K hK => ?_)
     go_simp
     refine (zy2 PU8.out.sf PU8.out.dh PU8.out.dg HO.out IZ8.out HZM1.out hstl8).mono ?_
     rintro e U9 ⟨svv9, L9, vA9, vB9, xs9, ss9, off9, rfl, hD9, hG9, hO9, hL9, hV9, hlx9, hls9, sU9⟩
     obtain ⟨sq9, cq9, rfl⟩ := hD9.form
     obtain ⟨sA9, cA9, rfl, _⟩ := zh hV9.a
     obtain ⟨sB9, cB9, rfl, _⟩ := zh hV9.c
     have PU9 := hide (PU8.out.kf sU9.kf sU9.src hD9 hG9)
     have AD9 : Hid (AD U9 loa (σ sA9 xs9.length cA9) (σ sB9 ss9.length cB9) xs9 ss9) := ⟨hV9.low LO8.out, hlx9, hls9⟩
     have HO9 := hide hO9
     have HL9 := hide hL9
     have hbl : b < loa := by omega
     have IY9 := hide (IY8.out.kf sU9.kf hbH)
     have LO9 := hide (LO8.out.kf sU9.kf hbH)
     have AO9 := hide (AO8.out.kf sU9.kf hbH)
     have IZ9 := hide (IZ8.out.kf sU9.kf hbH)
     clear sU9 hD9 hG9 hO9 hL9 hV9 hlx9 hls9
     have SB9 : Hid ((fun w' : World => w'.cell? ⟨k7, 0, none⟩ = some (σ sq L.length cq)) U9) := (show Bx _ k7 25 [σ sq L.length cq] from (PU9.out.bx 4 _ rfl).1).cell 0 rfl
     refine hK.out _ _ trivial (fun _ => SB9.out) ?_
     clear hK K
     try simp only [aP, sT, sZ, sS]
     refine zj (i := 9) (v := .tuple #[γ #[σ sq9 L9.length cq9], γ #[O ι st8, σ sA9 xs9.length cA9, σ sB9 ss9.length cB9, O ι off9]]) rfl (by kernel_rfl) (by kernel_rfl) (fun _ _ _ h => by cases h.1) _ (by kernel_rfl) (by kernel_rfl) (Or.inl ⟨by rfl, ?_⟩) trivial (fun _ => SB9.out) ?_
     ·intro w' _
      go_simp
     try simp only [aP, sT, sZ, sS]
     refine zj (i := 10) (v := γ #[σ sq9 L9.length cq9]) rfl (by kernel_rfl) (by kernel_rfl) (fun _ _ _ h => by cases h.1) _ (by kernel_rfl) (by kernel_rfl) (Or.inl ⟨by rfl, ?_⟩) trivial (fun _ => SB9.out) ?_
     ·intro w' _
      go_simp
     try simp only [aP, sT, sZ, sS]
     refine zj (i := 11) (v := γ #[O ι st8, σ sA9 xs9.length cA9, σ sB9 ss9.length cB9, O ι off9]) rfl (by kernel_rfl) (by kernel_rfl) (fun _ _ _ h => by cases h.1) _ (by kernel_rfl) (by kernel_rfl) (Or.inl ⟨by rfl, ?_⟩) trivial (fun _ => SB9.out) ?_
     ·intro w' _
      go_simp
     try simp only [aP, sT, sZ, sS]
     refine zi (i := 13) (by kernel_rfl) rfl (fun K hK => ?_)
     have q7 := (show Bx _ k7 25 [σ sq L.length cq] from (PU9.out.bx 4 _ rfl).1)
     have c7 := q7.cell 0 rfl
     have f7 := q7.fz 0
     go_simp
     have PX : Hid (PBx w (U9.setCell ⟨k7, 0, none⟩ (σ sq9 L9.length cq9)) H b (σ sq9 L9.length cq9) L9 [(w.heap.size, 25, [σ none 0 0]), (w.heap.size + 1, 30, [O ι 0, σ none 0 0, σ none 0 0, O ι 0]), (w.heap.size + 1 + 1, 30, [O ι 0, σ none 0 0, σ none 0 0, O ι 0]), (w.heap.size + 1 + 1 + 1, 30, [O ι 0, σ none 0 0, σ none 0 0, O ι 0]), (k7, 25, [σ sq9 L9.length cq9]), (k9, 30, [O ι st, σ sA xs.length cA, σ zp23 ss.length cB, O ι off]), (k10, 30, [O ι 0, σ none 0 0, σ none 0 0, O ι 0])]) := PU9.out.set 4 rfl 0 (σ sq9 L9.length cq9)
     have IYx := hide (IY9.out.box (o := 0) (u := σ sq9 L9.length cq9) q7 (by decide))
     have LOx := hide (LO9.out.box (o := 0) (u := σ sq9 L9.length cq9) q7 (by decide))
     have AOx := hide (AO9.out.box (o := 0) (u := σ sq9 L9.length cq9) q7 (by decide))
     have ADx := hide (AD9.out.box (o := 0) (u := σ sq9 L9.length cq9) q7 (by decide))
     clear q7 c7 f7
     refine hK.out _ _ trivial (fun h => absurd (show true = false from h.symm.trans (by kernel_rfl)) Bool.noConfusion) ?_
     clear hK K
     try simp only [aP, sT, sZ, sS]
     generalize U9.setCell ⟨k7, 0, none⟩ (σ sq9 L9.length cq9) = Vx at PX IYx LOx AOx ADx ⊢
     refine zi (i := 14) (by kernel_rfl) rfl (fun K hK => ?_)
     have q9 := (show Bx _ k10 30 [O ι 0, σ none 0 0, σ none 0 0, O ι 0] from (PX.out.bx 6 _ rfl).1)
     have c90 := q9.cell 0 rfl
     have c91 := q9.cell 1 rfl
     have c92 := q9.cell 2 rfl
     have c93 := q9.cell 3 rfl
     have f9 := fun o => q9.fz o
     go_simp
     have PZ0 : PBx w (Vx.setCell ⟨k10, 0, none⟩ (O ι st8)) H b (σ sq9 L9.length cq9) L9 [(w.heap.size, 25, [σ none 0 0]), (w.heap.size + 1, 30, [O ι 0, σ none 0 0, σ none 0 0, O ι 0]), (w.heap.size + 1 + 1, 30, [O ι 0, σ none 0 0, σ none 0 0, O ι 0]), (w.heap.size + 1 + 1 + 1, 30, [O ι 0, σ none 0 0, σ none 0 0, O ι 0]), (k7, 25, [σ sq9 L9.length cq9]), (k9, 30, [O ι st, σ sA xs.length cA, σ zp23 ss.length cB, O ι off]), (k10, 30, [O ι st8, σ none 0 0, σ none 0 0, O ι 0])] := PX.out.set 6 rfl 0 (O ι st8)
     have PZ1 : PBx w ((Vx.setCell ⟨k10, 0, none⟩ (O ι st8)).setCell ⟨k10, 1, none⟩ (σ sA9 xs9.length cA9)) H b (σ sq9 L9.length cq9) L9 [(w.heap.size, 25, [σ none 0 0]), (w.heap.size + 1, 30, [O ι 0, σ none 0 0, σ none 0 0, O ι 0]), (w.heap.size + 1 + 1, 30, [O ι 0, σ none 0 0, σ none 0 0, O ι 0]), (w.heap.size + 1 + 1 + 1, 30, [O ι 0, σ none 0 0, σ none 0 0, O ι 0]), (k7, 25, [σ sq9 L9.length cq9]), (k9, 30, [O ι st, σ sA xs.length cA, σ zp23 ss.length cB, O ι off]), (k10, 30, [O ι st8, σ sA9 xs9.length cA9, σ none 0 0, O ι 0])] := PZ0.set 6 rfl 1 (σ sA9 xs9.length cA9)
     have PZ2 : PBx w (((Vx.setCell ⟨k10, 0, none⟩ (O ι st8)).setCell ⟨k10, 1, none⟩ (σ sA9 xs9.length cA9)).setCell ⟨k10, 2, none⟩ (σ sB9 ss9.length cB9)) H b (σ sq9 L9.length cq9) L9 [(w.heap.size, 25, [σ none 0 0]), (w.heap.size + 1, 30, [O ι 0, σ none 0 0, σ none 0 0, O ι 0]), (w.heap.size + 1 + 1, 30, [O ι 0, σ none 0 0, σ none 0 0, O ι 0]), (w.heap.size + 1 + 1 + 1, 30, [O ι 0, σ none 0 0, σ none 0 0, O ι 0]), (k7, 25, [σ sq9 L9.length cq9]), (k9, 30, [O ι st, σ sA xs.length cA, σ zp23 ss.length cB, O ι off]), (k10, 30, [O ι st8, σ sA9 xs9.length cA9, σ sB9 ss9.length cB9, O ι 0])] := PZ1.set 6 rfl 2 (σ sB9 ss9.length cB9)
     have PZ3 : PBx w ((((Vx.setCell ⟨k10, 0, none⟩ (O ι st8)).setCell ⟨k10, 1, none⟩ (σ sA9 xs9.length cA9)).setCell ⟨k10, 2, none⟩ (σ sB9 ss9.length cB9)).setCell ⟨k10, 3, none⟩ (O ι off9)) H b (σ sq9 L9.length cq9) L9 [(w.heap.size, 25, [σ none 0 0]), (w.heap.size + 1, 30, [O ι 0, σ none 0 0, σ none 0 0, O ι 0]), (w.heap.size + 1 + 1, 30, [O ι 0, σ none 0 0, σ none 0 0, O ι 0]), (w.heap.size + 1 + 1 + 1, 30, [O ι 0, σ none 0 0, σ none 0 0, O ι 0]), (k7, 25, [σ sq9 L9.length cq9]), (k9, 30, [O ι st, σ sA xs.length cA, σ zp23 ss.length cB, O ι off]), (k10, 30, [O ι st8, σ sA9 xs9.length cA9, σ sB9 ss9.length cB9, O ι off9])] := PZ2.set 6 rfl 3 (O ι off9)
     have q90 := q9.set 0 (O ι st8)
     have q91 := q90.set 1 (σ sA9 xs9.length cA9)
     have q92 := q91.set 2 (σ sB9 ss9.length cB9)
     have IYy := hide ((((IYx.out.box (o := 0) (u := O ι st8) q9 (by decide)).box (o := 1) (u := σ sA9 xs9.length cA9) q90 (by decide)).box (o := 2) (u := σ sB9 ss9.length cB9) q91 (by decide)).box (o := 3) (u := O ι off9) q92 (by decide))
     have LOy := hide ((((LOx.out.box (o := 0) (u := O ι st8) q9 (by decide)).box (o := 1) (u := σ sA9 xs9.length cA9) q90 (by decide)).box (o := 2) (u := σ sB9 ss9.length cB9) q91 (by decide)).box (o := 3) (u := O ι off9) q92 (by decide))
     have AOy := hide ((((AOx.out.box (o := 0) (u := O ι st8) q9 (by decide)).box (o := 1) (u := σ sA9 xs9.length cA9) q90 (by decide)).box (o := 2) (u := σ sB9 ss9.length cB9) q91 (by decide)).box (o := 3) (u := O ι off9) q92 (by decide))
     have ADy := hide ((((ADx.out.box (o := 0) (u := O ι st8) q9 (by decide)).box (o := 1) (u := σ sA9 xs9.length cA9) q90 (by decide)).box (o := 2) (u := σ sB9 ss9.length cB9) q91 (by decide)).box (o := 3) (u := O ι off9) q92 (by decide))
     have PY := hide PZ3
     clear PZ0 PZ1 PZ2 PZ3 q9 q90 q91 q92 c90 c91 c92 c93 f9
     refine hK.out _ _ trivial (fun h => absurd (show true = false from h.symm.trans (by kernel_rfl)) Bool.noConfusion) ?_
     clear hK K
     try simp only [aP, sT, sZ, sS]
     generalize ((((Vx.setCell ⟨k10, 0, none⟩ (O ι st8)).setCell ⟨k10, 1, none⟩ (σ sA9 xs9.length cA9)).setCell ⟨k10, 2, none⟩ (σ sB9 ss9.length cB9)).setCell ⟨k10, 3, none⟩ (O ι off9)) = Vy at PY IYy LOy AOy ADy ⊢
     refine zd1 (by kernel_rfl) ?_ _
     refine ⟨rfl, ?_⟩
     go_wp2_with fail
     go_meet
     case rel => exact ⟨k10, _, _, L9, st8, _, _, _, _, xs9, ss9, off9, rfl, PY.out, HO9.out, HL9.out.trans hLq.symm, by omega, ADy.out, IYy.out, AOy.out⟩
   ·refine ⟨_, rfl, fun K hK => ?_⟩
    go_simp
    have PA10 : Hid (PBx w (W4d.alloc (χ #[O ι 0, σ none 0 0, σ none 0 0, O ι 0] 30)) H b (σ sq L.length cq) L [(w.heap.size, 25, [σ none 0 0]), (w.heap.size + 1, 30, [O ι 0, σ none 0 0, σ none 0 0, O ι 0]), (w.heap.size + 1 + 1, 30, [O ι 0, σ none 0 0, σ none 0 0, O ι 0]), (w.heap.size + 1 + 1 + 1, 30, [O ι 0, σ none 0 0, σ none 0 0, O ι 0]), (k7, 25, [σ sq L.length cq]), (k9, 30, [O ι st, σ sA xs.length cA, σ zp23 ss.length cB, O ι off]), (W4d.heap.size, 30, [O ι 0, σ none 0 0, σ none 0 0, O ι 0])]) := by
     show PBx _ _ _ _ _ _ _
     have := P4d.out.new #[O ι 0, σ none 0 0, σ none 0 0, O ι 0] 30 (Or.inr rfl)
     simpa using this
    have IY10 := hide (IY0.out.bel ((Below.refl W4d.heap.size W4d).alloc (Nat.le_refl _) (χ #[O ι 0, σ none 0 0, σ none 0 0, O ι 0] 30)))
    have LO10 := hide (LO0.out.bel ((Below.refl W4d.heap.size W4d).alloc (Nat.le_refl _) (χ #[O ι 0, σ none 0 0, σ none 0 0, O ι 0] 30)))
    have AO10 := hide (AO0.out.bel ((Below.refl W4d.heap.size W4d).alloc (Nat.le_refl _) (χ #[O ι 0, σ none 0 0, σ none 0 0, O ι 0] 30)))
    have SB10 : Hid ((fun w' : World => w'.cell? ⟨k7, 0, none⟩ = some (σ sq L.length cq)) (W4d.alloc (χ #[O ι 0, σ none 0 0, σ none 0 0, O ι 0] 30))) := (show Bx _ k7 25 [σ sq L.length cq] from (PA10.out.bx 4 _ rfl).1).cell 0 rfl
    refine hK.out _ _ trivial (fun _ => SB10.out) ?_
    clear hK K
    try simp only [aP, sT, sZ, sS]
    generalize hk910 : W4d.heap.size = k10 at PA10 ⊢
    generalize (W4d.alloc (χ #[O ι 0, σ none 0 0, σ none 0 0, O ι 0] 30)) = V10 at PA10 IY10 LO10 AO10 SB10 ⊢
    clear hk910
    refine zi (i := 4) (by kernel_rfl) rfl (fun K hK => ?_)
    go_simp
    refine (zn8 PA10.out.sf (IY10.out).ik.ints HSM.out).mono ?_
    rintro e U11 ⟨vz11, zs11, rfl, hsz11, hIz11, sU11, gU11⟩
    have PU11 := hide (PA10.out.gb gU11 sU11.src)
    obtain ⟨sz11, cz11, rfl, hIo11⟩ := hIz11
    have HZM11 := hide hsz11
    have IY11 := hide (IY10.out.kf sU11.kf hbH)
    have LO11 := hide (LO10.out.kf sU11.kf hbH)
    have AO11 := hide (AO10.out.kf sU11.kf hbH)
    have IZ11 : Hid (IK U11 H (σ sz11 zs11.length cz11) zs11) := ⟨_, _, rfl, hIo11⟩
    have SB11 : Hid ((fun w' : World => w'.cell? ⟨k7, 0, none⟩ = some (σ sq L.length cq)) U11) := (show Bx _ k7 25 [σ sq L.length cq] from (PU11.out.bx 4 _ rfl).1).cell 0 rfl
    clear sU11 gU11 hsz11 hIo11
    refine hK.out _ _ trivial (fun _ => SB11.out) ?_
    clear hK K
    try simp only [aP, sT, sZ, sS]
    refine zi (i := 7) (by kernel_rfl) rfl (fun K hK => ?_)
    go_simp
    refine (zk1 PU11.out.sf PU11.out.dh (by have := PU11.out.dg.cnt; omega)).mono ?_
    rintro e U12 ⟨sti12, rfl, hst012, hst112, sU12, gU12⟩
    obtain ⟨st12, hste12⟩ : ∃ st12 : Nat, sti12 = (st12 : Int) := ⟨sti12.toNat, by omega⟩
    subst hste12
    have hstl12 : st12 < L.length := by omega
    have PU12 := hide (PU11.out.gb gU12 sU12.src)
    have IY12 := hide (IY11.out.kf sU12.kf hbH)
    have LO12 := hide (LO11.out.kf sU12.kf hbH)
    have AO12 := hide (AO11.out.kf sU12.kf hbH)
    have IZ12 := hide (IZ11.out.kf sU12.kf hbH)
    have SB12 : Hid ((fun w' : World => w'.cell? ⟨k7, 0, none⟩ = some (σ sq L.length cq)) U12) := (show Bx _ k7 25 [σ sq L.length cq] from (PU12.out.bx 4 _ rfl).1).cell 0 rfl
    clear sU12 gU12 hst012 hst112
    refine hK.out _ _ trivial (fun _ => SB12.out) ?_
    clear hK K
    try simp only [aP, sT, sZ, sS]
    refine zi (i := 8) (by kernel_rfl) rfl (fun K hK => ?_)
    go_simp
    refine (zy2 PU12.out.sf PU12.out.dh PU12.out.dg HO.out IZ12.out HZM11.out hstl12).mono ?_
    rintro e U13 ⟨svv13, L13, vA13, vB13, xs13, ss13, off13, rfl, hD13, hG13, hO13, hL13, hV13, hlx13, hls13, sU13⟩
    obtain ⟨sq13, cq13, rfl⟩ := hD13.form
    obtain ⟨sA13, cA13, rfl, _⟩ := zh hV13.a
    obtain ⟨sB13, cB13, rfl, _⟩ := zh hV13.c
    have PU13 := hide (PU12.out.kf sU13.kf sU13.src hD13 hG13)
    have AD13 : Hid (AD U13 loa (σ sA13 xs13.length cA13) (σ sB13 ss13.length cB13) xs13 ss13) := ⟨hV13.low LO12.out, hlx13, hls13⟩
    have HO13 := hide hO13
    have HL13 := hide hL13
    have hbl : b < loa := by omega
    have IY13 := hide (IY12.out.kf sU13.kf hbH)
    have LO13 := hide (LO12.out.kf sU13.kf hbH)
    have AO13 := hide (AO12.out.kf sU13.kf hbH)
    have IZ13 := hide (IZ12.out.kf sU13.kf hbH)
    clear sU13 hD13 hG13 hO13 hL13 hV13 hlx13 hls13
    have SB13 : Hid ((fun w' : World => w'.cell? ⟨k7, 0, none⟩ = some (σ sq L.length cq)) U13) := (show Bx _ k7 25 [σ sq L.length cq] from (PU13.out.bx 4 _ rfl).1).cell 0 rfl
    refine hK.out _ _ trivial (fun _ => SB13.out) ?_
    clear hK K
    try simp only [aP, sT, sZ, sS]
    refine zj (i := 9) (v := .tuple #[γ #[σ sq13 L13.length cq13], γ #[O ι st12, σ sA13 xs13.length cA13, σ sB13 ss13.length cB13, O ι off13]]) rfl (by kernel_rfl) (by kernel_rfl) (fun _ _ _ h => by cases h.1) _ (by kernel_rfl) (by kernel_rfl) (Or.inl ⟨by rfl, ?_⟩) trivial (fun _ => SB13.out) ?_
    ·intro w' _
     go_simp
    try simp only [aP, sT, sZ, sS]
    refine zj (i := 10) (v := γ #[σ sq13 L13.length cq13]) rfl (by kernel_rfl) (by kernel_rfl) (fun _ _ _ h => by cases h.1) _ (by kernel_rfl) (by kernel_rfl) (Or.inl ⟨by rfl, ?_⟩) trivial (fun _ => SB13.out) ?_
    ·intro w' _
     go_simp
    try simp only [aP, sT, sZ, sS]
    refine zj (i := 11) (v := γ #[O ι st12, σ sA13 xs13.length cA13, σ sB13 ss13.length cB13, O ι off13]) rfl (by kernel_rfl) (by kernel_rfl) (fun _ _ _ h => by cases h.1) _ (by kernel_rfl) (by kernel_rfl) (Or.inl ⟨by rfl, ?_⟩) trivial (fun _ => SB13.out) ?_
    ·intro w' _
     go_simp
    try simp only [aP, sT, sZ, sS]
    refine zi (i := 13) (by kernel_rfl) rfl (fun K hK => ?_)
    have q7 := (show Bx _ k7 25 [σ sq L.length cq] from (PU13.out.bx 4 _ rfl).1)
    have c7 := q7.cell 0 rfl
    have f7 := q7.fz 0
    go_simp
    have PX : Hid (PBx w (U13.setCell ⟨k7, 0, none⟩ (σ sq13 L13.length cq13)) H b (σ sq13 L13.length cq13) L13 [(w.heap.size, 25, [σ none 0 0]), (w.heap.size + 1, 30, [O ι 0, σ none 0 0, σ none 0 0, O ι 0]), (w.heap.size + 1 + 1, 30, [O ι 0, σ none 0 0, σ none 0 0, O ι 0]), (w.heap.size + 1 + 1 + 1, 30, [O ι 0, σ none 0 0, σ none 0 0, O ι 0]), (k7, 25, [σ sq13 L13.length cq13]), (k9, 30, [O ι st, σ sA xs.length cA, σ zp23 ss.length cB, O ι off]), (k10, 30, [O ι 0, σ none 0 0, σ none 0 0, O ι 0])]) := PU13.out.set 4 rfl 0 (σ sq13 L13.length cq13)
    have IYx := hide (IY13.out.box (o := 0) (u := σ sq13 L13.length cq13) q7 (by decide))
    have LOx := hide (LO13.out.box (o := 0) (u := σ sq13 L13.length cq13) q7 (by decide))
    have AOx := hide (AO13.out.box (o := 0) (u := σ sq13 L13.length cq13) q7 (by decide))
    have ADx := hide (AD13.out.box (o := 0) (u := σ sq13 L13.length cq13) q7 (by decide))
    clear q7 c7 f7
    refine hK.out _ _ trivial (fun h => absurd (show true = false from h.symm.trans (by kernel_rfl)) Bool.noConfusion) ?_
    clear hK K
    try simp only [aP, sT, sZ, sS]
    generalize U13.setCell ⟨k7, 0, none⟩ (σ sq13 L13.length cq13) = Vx at PX IYx LOx AOx ADx ⊢
    refine zi (i := 14) (by kernel_rfl) rfl (fun K hK => ?_)
    have q9 := (show Bx _ k10 30 [O ι 0, σ none 0 0, σ none 0 0, O ι 0] from (PX.out.bx 6 _ rfl).1)
    have c90 := q9.cell 0 rfl
    have c91 := q9.cell 1 rfl
    have c92 := q9.cell 2 rfl
    have c93 := q9.cell 3 rfl
    have f9 := fun o => q9.fz o
    go_simp
    have PZ0 : PBx w (Vx.setCell ⟨k10, 0, none⟩ (O ι st12)) H b (σ sq13 L13.length cq13) L13 [(w.heap.size, 25, [σ none 0 0]), (w.heap.size + 1, 30, [O ι 0, σ none 0 0, σ none 0 0, O ι 0]), (w.heap.size + 1 + 1, 30, [O ι 0, σ none 0 0, σ none 0 0, O ι 0]), (w.heap.size + 1 + 1 + 1, 30, [O ι 0, σ none 0 0, σ none 0 0, O ι 0]), (k7, 25, [σ sq13 L13.length cq13]), (k9, 30, [O ι st, σ sA xs.length cA, σ zp23 ss.length cB, O ι off]), (k10, 30, [O ι st12, σ none 0 0, σ none 0 0, O ι 0])] := PX.out.set 6 rfl 0 (O ι st12)
    have PZ1 : PBx w ((Vx.setCell ⟨k10, 0, none⟩ (O ι st12)).setCell ⟨k10, 1, none⟩ (σ sA13 xs13.length cA13)) H b (σ sq13 L13.length cq13) L13 [(w.heap.size, 25, [σ none 0 0]), (w.heap.size + 1, 30, [O ι 0, σ none 0 0, σ none 0 0, O ι 0]), (w.heap.size + 1 + 1, 30, [O ι 0, σ none 0 0, σ none 0 0, O ι 0]), (w.heap.size + 1 + 1 + 1, 30, [O ι 0, σ none 0 0, σ none 0 0, O ι 0]), (k7, 25, [σ sq13 L13.length cq13]), (k9, 30, [O ι st, σ sA xs.length cA, σ zp23 ss.length cB, O ι off]), (k10, 30, [O ι st12, σ sA13 xs13.length cA13, σ none 0 0, O ι 0])] := PZ0.set 6 rfl 1 (σ sA13 xs13.length cA13)
    have PZ2 : PBx w (((Vx.setCell ⟨k10, 0, none⟩ (O ι st12)).setCell ⟨k10, 1, none⟩ (σ sA13 xs13.length cA13)).setCell ⟨k10, 2, none⟩ (σ sB13 ss13.length cB13)) H b (σ sq13 L13.length cq13) L13 [(w.heap.size, 25, [σ none 0 0]), (w.heap.size + 1, 30, [O ι 0, σ none 0 0, σ none 0 0, O ι 0]), (w.heap.size + 1 + 1, 30, [O ι 0, σ none 0 0, σ none 0 0, O ι 0]), (w.heap.size + 1 + 1 + 1, 30, [O ι 0, σ none 0 0, σ none 0 0, O ι 0]), (k7, 25, [σ sq13 L13.length cq13]), (k9, 30, [O ι st, σ sA xs.length cA, σ zp23 ss.length cB, O ι off]), (k10, 30, [O ι st12, σ sA13 xs13.length cA13, σ sB13 ss13.length cB13, O ι 0])] := PZ1.set 6 rfl 2 (σ sB13 ss13.length cB13)
    have PZ3 : PBx w ((((Vx.setCell ⟨k10, 0, none⟩ (O ι st12)).setCell ⟨k10, 1, none⟩ (σ sA13 xs13.length cA13)).setCell ⟨k10, 2, none⟩ (σ sB13 ss13.length cB13)).setCell ⟨k10, 3, none⟩ (O ι off13)) H b (σ sq13 L13.length cq13) L13 [(w.heap.size, 25, [σ none 0 0]), (w.heap.size + 1, 30, [O ι 0, σ none 0 0, σ none 0 0, O ι 0]), (w.heap.size + 1 + 1, 30, [O ι 0, σ none 0 0, σ none 0 0, O ι 0]), (w.heap.size + 1 + 1 + 1, 30, [O ι 0, σ none 0 0, σ none 0 0, O ι 0]), (k7, 25, [σ sq13 L13.length cq13]), (k9, 30, [O ι st, σ sA xs.length cA, σ zp23 ss.length cB, O ι off]), (k10, 30, [O ι st12, σ sA13 xs13.length cA13, σ sB13 ss13.length cB13, O ι off13])] := PZ2.set 6 rfl 3 (O ι off13)
    have q90 := q9.set 0 (O ι st12)
    have q91 := q90.set 1 (σ sA13 xs13.length cA13)
    have q92 := q91.set 2 (σ sB13 ss13.length cB13)
    have IYy := hide ((((IYx.out.box (o := 0) (u := O ι st12) q9 (by decide)).box (o := 1) (u := σ sA13 xs13.length cA13) q90 (by decide)).box (o := 2) (u := σ sB13 ss13.length cB13) q91 (by decide)).box (o := 3) (u := O ι off13) q92 (by decide))
    have LOy := hide ((((LOx.out.box (o := 0) (u := O ι st12) q9 (by decide)).box (o := 1) (u := σ sA13 xs13.length cA13) q90 (by decide)).box (o := 2) (u := σ sB13 ss13.length cB13) q91 (by decide)).box (o := 3) (u := O ι off13) q92 (by decide))
    have AOy := hide ((((AOx.out.box (o := 0) (u := O ι st12) q9 (by decide)).box (o := 1) (u := σ sA13 xs13.length cA13) q90 (by decide)).box (o := 2) (u := σ sB13 ss13.length cB13) q91 (by decide)).box (o := 3) (u := O ι off13) q92 (by decide))
    have ADy := hide ((((ADx.out.box (o := 0) (u := O ι st12) q9 (by decide)).box (o := 1) (u := σ sA13 xs13.length cA13) q90 (by decide)).box (o := 2) (u := σ sB13 ss13.length cB13) q91 (by decide)).box (o := 3) (u := O ι off13) q92 (by decide))
    have PY := hide PZ3
    clear PZ0 PZ1 PZ2 PZ3 q9 q90 q91 q92 c90 c91 c92 c93 f9
    refine hK.out _ _ trivial (fun h => absurd (show true = false from h.symm.trans (by kernel_rfl)) Bool.noConfusion) ?_
    clear hK K
    try simp only [aP, sT, sZ, sS]
    generalize ((((Vx.setCell ⟨k10, 0, none⟩ (O ι st12)).setCell ⟨k10, 1, none⟩ (σ sA13 xs13.length cA13)).setCell ⟨k10, 2, none⟩ (σ sB13 ss13.length cB13)).setCell ⟨k10, 3, none⟩ (O ι off13)) = Vy at PY IYy LOy AOy ADy ⊢
    refine zd1 (by kernel_rfl) ?_ _
    refine ⟨rfl, ?_⟩
    go_wp2_with fail
    go_meet
    case rel => exact ⟨k10, _, _, L13, st12, _, _, _, _, xs13, ss13, off13, rfl, PY.out, HO13.out, HL13.out.trans hLq.symm, by omega, ADy.out, IYy.out, AOy.out⟩
 case rest =>
 obtain ⟨k10, sq, cq, L, sta, aA, aB, acA, acB, xa, sa, offa, rfl, hP, hO, hL, hsta, hA, hI, hOut⟩ := hcut
 obtain ⟨W4, rfl⟩ : ∃ W4, W4 = wc := ⟨_, rfl⟩
 have P4d := hide hP.drew
 have HO := hide hO
 have hLq2 : Lq = L.length := hL.symm
 have IY0 := hide (hI.bel (zz W4))
 have AO0 := hide (hOut.bel (zz W4))
 have AA0 := hide (hA.bel (zz W4))
 have HAB : Hid (∀ j, ((Value.slice aA xa.length acA).ownBlock = some j → loa ≤ j) ∧ ((Value.slice aB sa.length acB).ownBlock = some j → loa ≤ j)) := fun j => ⟨fun e => (hA.dv.a.lt j e).1, fun e => (hA.dv.c.lt j e).1⟩
 have hbA : b < loa := by omega
 obtain ⟨lob, hlob⟩ : ∃ lob : Nat, H = lob := ⟨_, rfl⟩
 have LO0 : Hid (LOk W4.drew lob) := by
  show lob ≤ W4.heap.size
  have := hP.size
  omega
 clear hP hO hL hA hI hOut hLq HLQ
 have hLq := hLq2
 clear hLq2
 go_upto_region 6 with fail
 go_cut [11] (fun s11 wx => ∃ (k11 : Nat) (sq : Option Addr) (cq : Nat) (L : List Dst) (stx : Nat) (xA xB : Option Addr) (xcA xcB : Nat) (xx sx : List Int) (offx : Int), s11 = π (some ⟨k11, 0, none⟩) ∧ PBx w wx H b (σ sq L.length cq) L [(w.heap.size, 25, [σ none 0 0]), (w.heap.size + 1, 30, [O ι 0, σ none 0 0, σ none 0 0, O ι 0]), (w.heap.size + 1 + 1, 30, [O ι 0, σ none 0 0, σ none 0 0, O ι 0]), (w.heap.size + 1 + 1 + 1, 30, [O ι 0, σ none 0 0, σ none 0 0, O ι 0]), (k7, 25, [σ sq L.length cq]), (k9, 30, [O ι st, σ sA xs.length cA, σ zp23 ss.length cB, O ι off]), (k10, 30, [O ι sta, σ aA xa.length acA, σ aB sa.length acB, O ι offa]), (k11, 30, [O ι stx, σ xA xx.length xcA, σ xB sx.length xcB, O ι offx])] ∧ DtOk L ∧ L.length = Lq ∧ stx < Lq ∧ AD wx lob (σ xA xx.length xcA) (σ xB sx.length xcB) xx sx ∧ AD wx H (σ sA xs.length cA) (σ zp23 ss.length cB) xs ss ∧ AD wx loa (σ aA xa.length acA) (σ aB sa.length acB) xa sa)
 case first =>
  as_aux_lemma =>
   have SA : Hid ((fun w' : World => w'.cell? ⟨k7, 0, none⟩ = some (σ sq L.length cq)) W4.drew) := (show Bx _ k7 25 [σ sq L.length cq] from (P4d.out.bx 4 _ rfl).1).cell 0 rfl
   refine zj9 (S := (fun w' : World => w'.cell? ⟨k7, 0, none⟩ = some (σ sq L.length cq))) (T := fun _ => True) (late := [11, 12]) (by kernel_rfl) ?_
   generalize W4.drew = W4d at SA P4d IY0 LO0 AO0 AA0 ⊢
   refine zr (i := 0) (v := γ #[σ sq L.length cq]) rfl (by kernel_rfl) (by kernel_rfl) (by kernel_rfl) (fun _ _ _ h => by cases h.1) _ (by kernel_rfl) (by kernel_rfl) (by kernel_rfl) (Or.inl ⟨by rfl, ?_⟩) trivial SA.out ?_
   ·intro w' z0
    go_simp
   try simp only [aP, sT, sZ, sS]
   refine zr (i := 1) (v := π (some ⟨b, 0, none⟩)) rfl (by kernel_rfl) (by kernel_rfl) (by kernel_rfl) (fun _ _ _ h => by cases h.1) _ (by kernel_rfl) (by kernel_rfl) (by kernel_rfl) (Or.inl ⟨by rfl, ?_⟩) trivial SA.out ?_
   ·intro w' z0
    go_simp
   try simp only [aP, sT, sZ, sS]
   refine zr (i := 2) (v := σ sy ys.length cy) rfl (by kernel_rfl) (by kernel_rfl) (by kernel_rfl) (fun _ _ _ h => by cases h.1) _ (by kernel_rfl) (by kernel_rfl) (by kernel_rfl) (Or.inl ⟨by rfl, ?_⟩) trivial SA.out ?_
   ·intro w' z0
    go_simp
   try simp only [aP, sT, sZ, sS]
   refine zr (i := 3) (v := γ #[σ sq L.length cq]) rfl (by kernel_rfl) (by kernel_rfl) (by kernel_rfl) (fun _ _ _ h => by cases h.1) _ (by kernel_rfl) (by kernel_rfl) (by kernel_rfl) (Or.inl ⟨by rfl, ?_⟩) trivial SA.out ?_
   ·intro w' z0
    go_simp
   try simp only [aP, sT, sZ, sS]
   refine zr (i := 4) (v := π (some ⟨b, 0, none⟩)) rfl (by kernel_rfl) (by kernel_rfl) (by kernel_rfl) (fun _ _ _ h => by cases h.1) _ (by kernel_rfl) (by kernel_rfl) (by kernel_rfl) (Or.inl ⟨by rfl, ?_⟩) trivial SA.out ?_
   ·intro w' z0
    go_simp
   try simp only [aP, sT, sZ, sS]
   refine zr1 (rs := [5, 10]) (by kernel_rfl) (by simp) (fun i hi => ?_)
   simp only [List.mem_cons, List.not_mem_nil, or_false] at hi
   rcases hi with rfl | rfl
   ·refine ⟨_, rfl, fun K hK => ?_⟩
    go_simp
    refine (zk1 P4d.out.sf P4d.out.dh (by have := P4d.out.dg.cnt; omega)).mono ?_
    rintro e U1 ⟨sti1, rfl, hst01, hst11, sU1, gU1⟩
    obtain ⟨st1, hste1⟩ : ∃ st1 : Nat, sti1 = (st1 : Int) := ⟨sti1.toNat, by omega⟩
    subst hste1
    have hstl1 : st1 < L.length := by omega
    have PU1 := hide (P4d.out.gb gU1 sU1.src)
    have IY1 := hide (IY0.out.kf sU1.kf hbH)
    have LO1 := hide (LO0.out.kf sU1.kf hbH)
    have AO1 := hide (AO0.out.kf sU1.kf hbH)
    have AA1 := hide (AA0.out.kf sU1.kf hbA)
    have SB1 : Hid ((fun w' : World => w'.cell? ⟨k7, 0, none⟩ = some (σ sq L.length cq)) U1) := (show Bx _ k7 25 [σ sq L.length cq] from (PU1.out.bx 4 _ rfl).1).cell 0 rfl
    clear sU1 gU1 hst01 hst11
    refine hK.out _ _ trivial (fun _ => SB1.out) ?_
    clear hK K
    try simp only [aP, sT, sZ, sS]
    refine zr1 (rs := [6, 10]) (by kernel_rfl) (by simp) (fun i hi => ?_)
    simp only [List.mem_cons, List.not_mem_nil, or_false] at hi
    rcases hi with rfl | rfl
    ·refine ⟨_, rfl, fun K hK => ?_⟩
     go_simp
     refine (zy2 PU1.out.sf PU1.out.dh PU1.out.dg HO.out IY1.out.ik HSM.out hstl1).mono ?_
     rintro e U2 ⟨svv2, L2, vA2, vB2, xs2, ss2, off2, rfl, hD2, hG2, hO2, hL2, hV2, hlx2, hls2, sU2⟩
     obtain ⟨sq2, cq2, rfl⟩ := hD2.form
     obtain ⟨sA2, cA2, rfl, _⟩ := zh hV2.a
     obtain ⟨sB2, cB2, rfl, _⟩ := zh hV2.c
     have PU2 := hide (PU1.out.kf sU2.kf sU2.src hD2 hG2)
     have AD2 : Hid (AD U2 lob (σ sA2 xs2.length cA2) (σ sB2 ss2.length cB2) xs2 ss2) := ⟨hV2.low LO1.out, hlx2, hls2⟩
     have HO2 := hide hO2
     have HL2 := hide hL2
     have hbl : b < lob := by omega
     have IY2 := hide (IY1.out.kf sU2.kf hbH)
     have LO2 := hide (LO1.out.kf sU2.kf hbH)
     have AO2 := hide (AO1.out.kf sU2.kf hbH)
     have AA2 := hide (AA1.out.kf sU2.kf hbA)
     clear sU2 hD2 hG2 hO2 hL2 hV2 hlx2 hls2
     have SB2 : Hid ((fun w' : World => w'.cell? ⟨k7, 0, none⟩ = some (σ sq L.length cq)) U2) := (show Bx _ k7 25 [σ sq L.length cq] from (PU2.out.bx 4 _ rfl).1).cell 0 rfl
     refine hK.out _ _ trivial (fun _ => SB2.out) ?_
     clear hK K
     try simp only [aP, sT, sZ, sS]
     refine zj (i := 7) (v := .tuple #[γ #[σ sq2 L2.length cq2], γ #[O ι st1, σ sA2 xs2.length cA2, σ sB2 ss2.length cB2, O ι off2]]) rfl (by kernel_rfl) (by kernel_rfl) (fun _ _ _ h => by cases h.1) _ (by kernel_rfl) (by kernel_rfl) (Or.inl ⟨by rfl, ?_⟩) trivial (fun _ => SB2.out) ?_
     ·intro w' _
      go_simp
     try simp only [aP, sT, sZ, sS]
     refine zj (i := 8) (v := γ #[σ sq2 L2.length cq2]) rfl (by kernel_rfl) (by kernel_rfl) (fun _ _ _ h => by cases h.1) _ (by kernel_rfl) (by kernel_rfl) (Or.inl ⟨by rfl, ?_⟩) trivial (fun _ => SB2.out) ?_
     ·intro w' _
      go_simp
     try simp only [aP, sT, sZ, sS]
     refine zj (i := 9) (v := γ #[O ι st1, σ sA2 xs2.length cA2, σ sB2 ss2.length cB2, O ι off2]) rfl (by kernel_rfl) (by kernel_rfl) (fun _ _ _ h => by cases h.1) _ (by kernel_rfl) (by kernel_rfl) (Or.inl ⟨by rfl, ?_⟩) trivial (fun _ => SB2.out) ?_
     ·intro w' _
      go_simp
     try simp only [aP, sT, sZ, sS]
     refine zi (i := 10) (by kernel_rfl) rfl (fun K hK => ?_)
     go_simp
     have PA3 : Hid (PBx w (U2.alloc (χ #[O ι 0, σ none 0 0, σ none 0 0, O ι 0] 30)) H b (σ sq2 L2.length cq2) L2 [(w.heap.size, 25, [σ none 0 0]), (w.heap.size + 1, 30, [O ι 0, σ none 0 0, σ none 0 0, O ι 0]), (w.heap.size + 1 + 1, 30, [O ι 0, σ none 0 0, σ none 0 0, O ι 0]), (w.heap.size + 1 + 1 + 1, 30, [O ι 0, σ none 0 0, σ none 0 0, O ι 0]), (k7, 25, [σ sq L.length cq]), (k9, 30, [O ι st, σ sA xs.length cA, σ zp23 ss.length cB, O ι off]), (k10, 30, [O ι sta, σ aA xa.length acA, σ aB sa.length acB, O ι offa]), (U2.heap.size, 30, [O ι 0, σ none 0 0, σ none 0 0, O ι 0])]) := by
      show PBx _ _ _ _ _ _ _
      have := PU2.out.new #[O ι 0, σ none 0 0, σ none 0 0, O ι 0] 30 (Or.inr rfl)
      simpa using this
     have IY3 := hide (IY2.out.bel ((Below.refl U2.heap.size U2).alloc (Nat.le_refl _) (χ #[O ι 0, σ none 0 0, σ none 0 0, O ι 0] 30)))
     have LO3 := hide (LO2.out.bel ((Below.refl U2.heap.size U2).alloc (Nat.le_refl _) (χ #[O ι 0, σ none 0 0, σ none 0 0, O ι 0] 30)))
     have AO3 := hide (AO2.out.bel ((Below.refl U2.heap.size U2).alloc (Nat.le_refl _) (χ #[O ι 0, σ none 0 0, σ none 0 0, O ι 0] 30)))
     have AA3 := hide (AA2.out.bel ((Below.refl U2.heap.size U2).alloc (Nat.le_refl _) (χ #[O ι 0, σ none 0 0, σ none 0 0, O ι 0] 30)))
     have AD3 := hide (AD2.out.bel ((Below.refl U2.heap.size U2).alloc (Nat.le_refl _) (χ #[O ι 0, σ none 0 0, σ none 0 0, O ι 0] 30)))
     have SB3 : Hid ((fun w' : World => w'.cell? ⟨k7, 0, none⟩ = some (σ sq L.length cq)) (U2.alloc (χ #[O ι 0, σ none 0 0, σ none 0 0, O ι 0] 30))) := (show Bx _ k7 25 [σ sq L.length cq] from (PA3.out.bx 4 _ rfl).1).cell 0 rfl
     refine hK.out _ _ trivial (fun _ => SB3.out) ?_
     clear hK K
     try simp only [aP, sT, sZ, sS]
     generalize hk93 : U2.heap.size = k11 at PA3 ⊢
     generalize (U2.alloc (χ #[O ι 0, σ none 0 0, σ none 0 0, O ι 0] 30)) = V3 at PA3 IY3 LO3 AO3 AA3 AD3 SB3 ⊢
     clear hk93
     refine zi (i := 11) (by kernel_rfl) rfl (fun K hK => ?_)
     have q7 := (show Bx _ k7 25 [σ sq L.length cq] from (PA3.out.bx 4 _ rfl).1)
     have c7 := q7.cell 0 rfl
     have f7 := q7.fz 0
     go_simp
     have PX : Hid (PBx w (V3.setCell ⟨k7, 0, none⟩ (σ sq2 L2.length cq2)) H b (σ sq2 L2.length cq2) L2 [(w.heap.size, 25, [σ none 0 0]), (w.heap.size + 1, 30, [O ι 0, σ none 0 0, σ none 0 0, O ι 0]), (w.heap.size + 1 + 1, 30, [O ι 0, σ none 0 0, σ none 0 0, O ι 0]), (w.heap.size + 1 + 1 + 1, 30, [O ι 0, σ none 0 0, σ none 0 0, O ι 0]), (k7, 25, [σ sq2 L2.length cq2]), (k9, 30, [O ι st, σ sA xs.length cA, σ zp23 ss.length cB, O ι off]), (k10, 30, [O ι sta, σ aA xa.length acA, σ aB sa.length acB, O ι offa]), (k11, 30, [O ι 0, σ none 0 0, σ none 0 0, O ι 0])]) := PA3.out.set 4 rfl 0 (σ sq2 L2.length cq2)
     have IYx := hide (IY3.out.box (o := 0) (u := σ sq2 L2.length cq2) q7 (by decide))
     have LOx := hide (LO3.out.box (o := 0) (u := σ sq2 L2.length cq2) q7 (by decide))
     have AOx := hide (AO3.out.box (o := 0) (u := σ sq2 L2.length cq2) q7 (by decide))
     have AAx := hide (AA3.out.box (o := 0) (u := σ sq2 L2.length cq2) q7 (by decide))
     have ADx := hide (AD3.out.box (o := 0) (u := σ sq2 L2.length cq2) q7 (by decide))
     clear q7 c7 f7
     refine hK.out _ _ trivial (fun h => absurd (show true = false from h.symm.trans (by kernel_rfl)) Bool.noConfusion) ?_
     clear hK K
     try simp only [aP, sT, sZ, sS]
     generalize V3.setCell ⟨k7, 0, none⟩ (σ sq2 L2.length cq2) = Vx at PX IYx LOx AOx AAx ADx ⊢
     refine zi (i := 12) (by kernel_rfl) rfl (fun K hK => ?_)
     have q9 := (show Bx _ k11 30 [O ι 0, σ none 0 0, σ none 0 0, O ι 0] from (PX.out.bx 7 _ rfl).1)
     have c90 := q9.cell 0 rfl
     have c91 := q9.cell 1 rfl
     have c92 := q9.cell 2 rfl
     have c93 := q9.cell 3 rfl
     have f9 := fun o => q9.fz o
     go_simp
     have PZ0 : PBx w (Vx.setCell ⟨k11, 0, none⟩ (O ι st1)) H b (σ sq2 L2.length cq2) L2 [(w.heap.size, 25, [σ none 0 0]), (w.heap.size + 1, 30, [O ι 0, σ none 0 0, σ none 0 0, O ι 0]), (w.heap.size + 1 + 1, 30, [O ι 0, σ none 0 0, σ none 0 0, O ι 0]), (w.heap.size + 1 + 1 + 1, 30, [O ι 0, σ none 0 0, σ none 0 0, O ι 0]), (k7, 25, [σ sq2 L2.length cq2]), (k9, 30, [O ι st, σ sA xs.length cA, σ zp23 ss.length cB, O ι off]), (k10, 30, [O ι sta, σ aA xa.length acA, σ aB sa.length acB, O ι offa]), (k11, 30, [O ι st1, σ none 0 0, σ none 0 0, O ι 0])] := PX.out.set 7 rfl 0 (O ι st1)
     have PZ1 : PBx w ((Vx.setCell ⟨k11, 0, none⟩ (O ι st1)).setCell ⟨k11, 1, none⟩ (σ sA2 xs2.length cA2)) H b (σ sq2 L2.length cq2) L2 [(w.heap.size, 25, [σ none 0 0]), (w.heap.size + 1, 30, [O ι 0, σ none 0 0, σ none 0 0, O ι 0]), (w.heap.size + 1 + 1, 30, [O ι 0, σ none 0 0, σ none 0 0, O ι 0]), (w.heap.size + 1 + 1 + 1, 30, [O ι 0, σ none 0 0, σ none 0 0, O ι 0]), (k7, 25, [σ sq2 L2.length cq2]), (k9, 30, [O ι st, σ sA xs.length cA, σ zp23 ss.length cB, O ι off]), (k10, 30, [O ι sta, σ aA xa.length acA, σ aB sa.length acB, O ι offa]), (k11, 30, [O ι st1, σ sA2 xs2.length cA2, σ none 0 0, O ι 0])] := PZ0.set 7 rfl 1 (σ sA2 xs2.length cA2)
     have PZ2 : PBx w (((Vx.setCell ⟨k11, 0, none⟩ (O ι st1)).setCell ⟨k11, 1, none⟩ (σ sA2 xs2.length cA2)).setCell ⟨k11, 2, none⟩ (σ sB2 ss2.length cB2)) H b (σ sq2 L2.length cq2) L2 [(w.heap.size, 25, [σ none 0 0]), (w.heap.size + 1, 30, [O ι 0, σ none 0 0, σ none 0 0, O ι 0]), (w.heap.size + 1 + 1, 30, [O ι 0, σ none 0 0, σ none 0 0, O ι 0]), (w.heap.size + 1 + 1 + 1, 30, [O ι 0, σ none 0 0, σ none 0 0, O ι 0]), (k7, 25, [σ sq2 L2.length cq2]), (k9, 30, [O ι st, σ sA xs.length cA, σ zp23 ss.length cB, O ι off]), (k10, 30, [O ι sta, σ aA xa.length acA, σ aB sa.length acB, O ι offa]), (k11, 30, [O ι st1, σ sA2 xs2.length cA2, σ sB2 ss2.length cB2, O ι 0])] := PZ1.set 7 rfl 2 (σ sB2 ss2.length cB2)
     have PZ3 : PBx w ((((Vx.setCell ⟨k11, 0, none⟩ (O ι st1)).setCell ⟨k11, 1, none⟩ (σ sA2 xs2.length cA2)).setCell ⟨k11, 2, none⟩ (σ sB2 ss2.length cB2)).setCell ⟨k11, 3, none⟩ (O ι off2)) H b (σ sq2 L2.length cq2) L2 [(w.heap.size, 25, [σ none 0 0]), (w.heap.size + 1, 30, [O ι 0, σ none 0 0, σ none 0 0, O ι 0]), (w.heap.size + 1 + 1, 30, [O ι 0, σ none 0 0, σ none 0 0, O ι 0]), (w.heap.size + 1 + 1 + 1, 30, [O ι 0, σ none 0 0, σ none 0 0, O ι 0]), (k7, 25, [σ sq2 L2.length cq2]), (k9, 30, [O ι st, σ sA xs.length cA, σ zp23 ss.length cB, O ι off]), (k10, 30, [O ι sta, σ aA xa.length acA, σ aB sa.length acB, O ι offa]), (k11, 30, [O ι st1, σ sA2 xs2.length cA2, σ sB2 ss2.length cB2, O ι off2])] := PZ2.set 7 rfl 3 (O ι off2)
     have q90 := q9.set 0 (O ι st1)
     have q91 := q90.set 1 (σ sA2 xs2.length cA2)
     have q92 := q91.set 2 (σ sB2 ss2.length cB2)
     have IYy := hide ((((IYx.out.box (o := 0) (u := O ι st1) q9 (by decide)).box (o := 1) (u := σ sA2 xs2.length cA2) q90 (by decide)).box (o := 2) (u := σ sB2 ss2.length cB2) q91 (by decide)).box (o := 3) (u := O ι off2) q92 (by decide))
     have LOy := hide ((((LOx.out.box (o := 0) (u := O ι st1) q9 (by decide)).box (o := 1) (u := σ sA2 xs2.length cA2) q90 (by decide)).box (o := 2) (u := σ sB2 ss2.length cB2) q91 (by decide)).box (o := 3) (u := O ι off2) q92 (by decide))
     have AOy := hide ((((AOx.out.box (o := 0) (u := O ι st1) q9 (by decide)).box (o := 1) (u := σ sA2 xs2.length cA2) q90 (by decide)).box (o := 2) (u := σ sB2 ss2.length cB2) q91 (by decide)).box (o := 3) (u := O ι off2) q92 (by decide))
     have AAy := hide ((((AAx.out.box (o := 0) (u := O ι st1) q9 (by decide)).box (o := 1) (u := σ sA2 xs2.length cA2) q90 (by decide)).box (o := 2) (u := σ sB2 ss2.length cB2) q91 (by decide)).box (o := 3) (u := O ι off2) q92 (by decide))
     have ADy := hide ((((ADx.out.box (o := 0) (u := O ι st1) q9 (by decide)).box (o := 1) (u := σ sA2 xs2.length cA2) q90 (by decide)).box (o := 2) (u := σ sB2 ss2.length cB2) q91 (by decide)).box (o := 3) (u := O ι off2) q92 (by decide))
     have PY := hide PZ3
     clear PZ0 PZ1 PZ2 PZ3 q9 q90 q91 q92 c90 c91 c92 c93 f9
     refine hK.out _ _ trivial (fun h => absurd (show true = false from h.symm.trans (by kernel_rfl)) Bool.noConfusion) ?_
     clear hK K
     try simp only [aP, sT, sZ, sS]
     generalize ((((Vx.setCell ⟨k11, 0, none⟩ (O ι st1)).setCell ⟨k11, 1, none⟩ (σ sA2 xs2.length cA2)).setCell ⟨k11, 2, none⟩ (σ sB2 ss2.length cB2)).setCell ⟨k11, 3, none⟩ (O ι off2)) = Vy at PY IYy LOy AOy AAy ADy ⊢
     refine zd1 (by kernel_rfl) ?_ _
     refine ⟨rfl, ?_⟩
     go_wp2_with fail
     go_meet
     case rel => exact ⟨k11, _, _, L2, st1, _, _, _, _, xs2, ss2, off2, rfl, PY.out, HO2.out, HL2.out.trans hLq.symm, by omega, ADy.out, AOy.out, AAy.out⟩
    ·refine ⟨_, rfl, fun K hK => ?_⟩
     go_simp
     have PA4 : Hid (PBx w (U1.alloc (χ #[O ι 0, σ none 0 0, σ none 0 0, O ι 0] 30)) H b (σ sq L.length cq) L [(w.heap.size, 25, [σ none 0 0]), (w.heap.size + 1, 30, [O ι 0, σ none 0 0, σ none 0 0, O ι 0]), (w.heap.size + 1 + 1, 30, [O ι 0, σ none 0 0, σ none 0 0, O ι 0]), (w.heap.size + 1 + 1 + 1, 30, [O ι 0, σ none 0 0, σ none 0 0, O ι 0]), (k7, 25, [σ sq L.length cq]), (k9, 30, [O ι st, σ sA xs.length cA, σ zp23 ss.length cB, O ι off]), (k10, 30, [O ι sta, σ aA xa.length acA, σ aB sa.length acB, O ι offa]), (U1.heap.size, 30, [O ι 0, σ none 0 0, σ none 0 0, O ι 0])]) := by
      show PBx _ _ _ _ _ _ _
      have := PU1.out.new #[O ι 0, σ none 0 0, σ none 0 0, O ι 0] 30 (Or.inr rfl)
      simpa using this
     have IY4 := hide (IY1.out.bel ((Below.refl U1.heap.size U1).alloc (Nat.le_refl _) (χ #[O ι 0, σ none 0 0, σ none 0 0, O ι 0] 30)))
     have LO4 := hide (LO1.out.bel ((Below.refl U1.heap.size U1).alloc (Nat.le_refl _) (χ #[O ι 0, σ none 0 0, σ none 0 0, O ι 0] 30)))
     have AO4 := hide (AO1.out.bel ((Below.refl U1.heap.size U1).alloc (Nat.le_refl _) (χ #[O ι 0, σ none 0 0, σ none 0 0, O ι 0] 30)))
     have AA4 := hide (AA1.out.bel ((Below.refl U1.heap.size U1).alloc (Nat.le_refl _) (χ #[O ι 0, σ none 0 0, σ none 0 0, O ι 0] 30)))
     have SB4 : Hid ((fun w' : World => w'.cell? ⟨k7, 0, none⟩ = some (σ sq L.length cq)) (U1.alloc (χ #[O ι 0, σ none 0 0, σ none 0 0, O ι 0] 30))) := (show Bx _ k7 25 [σ sq L.length cq] from (PA4.out.bx 4 _ rfl).1).cell 0 rfl
     refine hK.out _ _ trivial (fun _ => SB4.out) ?_
     clear hK K
     try simp only [aP, sT, sZ, sS]
     generalize hk94 : U1.heap.size = k11 at PA4 ⊢
     generalize (U1.alloc (χ #[O ι 0, σ none 0 0, σ none 0 0, O ι 0] 30)) = V4 at PA4 IY4 LO4 AO4 AA4 SB4 ⊢
     clear hk94
     refine zi (i := 6) (by kernel_rfl) rfl (fun K hK => ?_)
     go_simp
     refine (zy2 PA4.out.sf PA4.out.dh PA4.out.dg HO.out IY4.out.ik HSM.out hstl1).mono ?_
     rintro e U5 ⟨svv5, L5, vA5, vB5, xs5, ss5, off5, rfl, hD5, hG5, hO5, hL5, hV5, hlx5, hls5, sU5⟩
     obtain ⟨sq5, cq5, rfl⟩ := hD5.form
     obtain ⟨sA5, cA5, rfl, _⟩ := zh hV5.a
     obtain ⟨sB5, cB5, rfl, _⟩ := zh hV5.c
     have PU5 := hide (PA4.out.kf sU5.kf sU5.src hD5 hG5)
     have AD5 : Hid (AD U5 lob (σ sA5 xs5.length cA5) (σ sB5 ss5.length cB5) xs5 ss5) := ⟨hV5.low LO4.out, hlx5, hls5⟩
     have HO5 := hide hO5
     have HL5 := hide hL5
     have hbl : b < lob := by omega
     have IY5 := hide (IY4.out.kf sU5.kf hbH)
     have LO5 := hide (LO4.out.kf sU5.kf hbH)
     have AO5 := hide (AO4.out.kf sU5.kf hbH)
     have AA5 := hide (AA4.out.kf sU5.kf hbA)
     clear sU5 hD5 hG5 hO5 hL5 hV5 hlx5 hls5
     have SB5 : Hid ((fun w' : World => w'.cell? ⟨k7, 0, none⟩ = some (σ sq L.length cq)) U5) := (show Bx _ k7 25 [σ sq L.length cq] from (PU5.out.bx 4 _ rfl).1).cell 0 rfl
     refine hK.out _ _ trivial (fun _ => SB5.out) ?_
     clear hK K
     try simp only [aP, sT, sZ, sS]
     refine zj (i := 7) (v := .tuple #[γ #[σ sq5 L5.length cq5], γ #[O ι st1, σ sA5 xs5.length cA5, σ sB5 ss5.length cB5, O ι off5]]) rfl (by kernel_rfl) (by kernel_rfl) (fun _ _ _ h => by cases h.1) _ (by kernel_rfl) (by kernel_rfl) (Or.inl ⟨by rfl, ?_⟩) trivial (fun _ => SB5.out) ?_
     ·intro w' _
      go_simp
     try simp only [aP, sT, sZ, sS]
     refine zj (i := 8) (v := γ #[σ sq5 L5.length cq5]) rfl (by kernel_rfl) (by kernel_rfl) (fun _ _ _ h => by cases h.1) _ (by kernel_rfl) (by kernel_rfl) (Or.inl ⟨by rfl, ?_⟩) trivial (fun _ => SB5.out) ?_
     ·intro w' _
      go_simp
     try simp only [aP, sT, sZ, sS]
     refine zj (i := 9) (v := γ #[O ι st1, σ sA5 xs5.length cA5, σ sB5 ss5.length cB5, O ι off5]) rfl (by kernel_rfl) (by kernel_rfl) (fun _ _ _ h => by cases h.1) _ (by kernel_rfl) (by kernel_rfl) (Or.inl ⟨by rfl, ?_⟩) trivial (fun _ => SB5.out) ?_
     ·intro w' _
      go_simp
     try simp only [aP, sT, sZ, sS]
     refine zi (i := 11) (by kernel_rfl) rfl (fun K hK => ?_)
     have q7 := (show Bx _ k7 25 [σ sq L.length cq] from (PU5.out.bx 4 _ rfl).1)
     have c7 := q7.cell 0 rfl
     have f7 := q7.fz 0
     go_simp
     have PX : Hid (PBx w (U5.setCell ⟨k7, 0, none⟩ (σ sq5 L5.length cq5)) H b (σ sq5 L5.length cq5) L5 [(w.heap.size, 25, [σ none 0 0]), (w.heap.size + 1, 30, [O ι 0, σ none 0 0, σ none 0 0, O ι 0]), (w.heap.size + 1 + 1, 30, [O ι 0, σ none 0 0, σ none 0 0, O ι 0]), (w.heap.size + 1 + 1 + 1, 30, [O ι 0, σ none 0 0, σ none 0 0, O ι 0]), (k7, 25, [σ sq5 L5.length cq5]), (k9, 30, [O ι st, σ sA xs.length cA, σ zp23 ss.length cB, O ι off]), (k10, 30, [O ι sta, σ aA xa.length acA, σ aB sa.length acB, O ι offa]), (k11, 30, [O ι 0, σ none 0 0, σ none 0 0, O ι 0])]) := PU5.out.set 4 rfl 0 (σ sq5 L5.length cq5)
     have IYx := hide (IY5.out.box (o := 0) (u := σ sq5 L5.length cq5) q7 (by decide))
     have LOx := hide (LO5.out.box (o := 0) (u := σ sq5 L5.length cq5) q7 (by decide))
     have AOx := hide (AO5.out.box (o := 0) (u := σ sq5 L5.length cq5) q7 (by decide))
     have AAx := hide (AA5.out.box (o := 0) (u := σ sq5 L5.length cq5) q7 (by decide))
     have ADx := hide (AD5.out.box (o := 0) (u := σ sq5 L5.length cq5) q7 (by decide))
     clear q7 c7 f7
     refine hK.out _ _ trivial (fun h => absurd (show true = false from h.symm.trans (by kernel_rfl)) Bool.noConfusion) ?_
     clear hK K
     try simp only [aP, sT, sZ, sS]
     generalize U5.setCell ⟨k7, 0, none⟩ (σ sq5 L5.length cq5) = Vx at PX IYx LOx AOx AAx ADx ⊢
     refine zi (i := 12) (by kernel_rfl) rfl (fun K hK => ?_)
     have q9 := (show Bx _ k11 30 [O ι 0, σ none 0 0, σ none 0 0, O ι 0] from (PX.out.bx 7 _ rfl).1)
     have c90 := q9.cell 0 rfl
     have c91 := q9.cell 1 rfl
     have c92 := q9.cell 2 rfl
     have c93 := q9.cell 3 rfl
     have f9 := fun o => q9.fz o
     go_simp
     have PZ0 : PBx w (Vx.setCell ⟨k11, 0, none⟩ (O ι st1)) H b (σ sq5 L5.length cq5) L5 [(w.heap.size, 25, [σ none 0 0]), (w.heap.size + 1, 30, [O ι 0, σ none 0 0, σ none 0 0, O ι 0]), (w.heap.size + 1 + 1, 30, [O ι 0, σ none 0 0, σ none 0 0, O ι 0]), (w.heap.size + 1 + 1 + 1, 30, [O ι 0, σ none 0 0, σ none 0 0, O ι 0]), (k7, 25, [σ sq5 L5.length cq5]), (k9, 30, [O ι st, σ sA xs.length cA, σ zp23 ss.length cB, O ι off]), (k10, 30, [O ι sta, σ aA xa.length acA, σ aB sa.length acB, O ι offa]), (k11, 30, [O ι st1, σ none 0 0, σ none 0 0, O ι 0])] := PX.out.set 7 rfl 0 (O ι st1)
     have PZ1 : PBx w ((Vx.setCell ⟨k11, 0, none⟩ (O ι st1)).setCell ⟨k11, 1, none⟩ (σ sA5 xs5.length cA5)) H b (σ sq5 L5.length cq5) L5 [(w.heap.size, 25, [σ none 0 0]), (w.heap.size + 1, 30, [O ι 0, σ none 0 0, σ none 0 0, O ι 0]), (w.heap.size + 1 + 1, 30, [O ι 0, σ none 0 0, σ none 0 0, O ι 0]), (w.heap.size + 1 + 1 + 1, 30, [O ι 0, σ none 0 0, σ none 0 0, O ι 0]), (k7, 25, [σ sq5 L5.length cq5]), (k9, 30, [O ι st, σ sA xs.length cA, σ zp23 ss.length cB, O ι off]), (k10, 30, [O ι sta, σ aA xa.length acA, σ aB sa.length acB, O ι offa]), (k11, 30, [O ι st1, σ sA5 xs5.length cA5, σ none 0 0, O ι 0])] := PZ0.set 7 rfl 1 (σ sA5 xs5.length cA5)
     have PZ2 : PBx w (((Vx.setCell ⟨k11, 0, none⟩ (O ι st1)).setCell ⟨k11, 1, none⟩ (σ sA5 xs5.length cA5)).setCell ⟨k11, 2, none⟩ (σ sB5 ss5.length cB5)) H b (σ sq5 L5.length cq5) L5 [(w.heap.size, 25, [σ none 0 0]), (w.heap.size + 1, 30, [O ι 0, σ none 0 0, σ none 0 0, O ι 0]), (w.heap.size + 1 + 1, 30, [O ι 0, σ none 0 0, σ none 0 0, O ι 0]), (w.heap.size + 1 + 1 + 1, 30, [O ι 0, σ none 0 0, σ none 0 0, O ι 0]), (k7, 25, [σ sq5 L5.length cq5]), (k9, 30, [O ι st, σ sA xs.length cA, σ zp23 ss.length cB, O ι off]), (k10, 30, [O ι sta, σ aA xa.length acA, σ aB sa.length acB, O ι offa]), (k11, 30, [O ι st1, σ sA5 xs5.length cA5, σ sB5 ss5.length cB5, O ι 0])] := PZ1.set 7 rfl 2 (σ sB5 ss5.length cB5)
     have PZ3 : PBx w ((((Vx.setCell ⟨k11, 0, none⟩ (O ι st1)).setCell ⟨k11, 1, none⟩ (σ sA5 xs5.length cA5)).setCell ⟨k11, 2, none⟩ (σ sB5 ss5.length cB5)).setCell ⟨k11, 3, none⟩ (O ι off5)) H b (σ sq5 L5.length cq5) L5 [(w.heap.size, 25, [σ none 0 0]), (w.heap.size + 1, 30, [O ι 0, σ none 0 0, σ none 0 0, O ι 0]), (w.heap.size + 1 + 1, 30, [O ι 0, σ none 0 0, σ none 0 0, O ι 0]), (w.heap.size + 1 + 1 + 1, 30, [O ι 0, σ none 0 0, σ none 0 0, O ι 0]), (k7, 25, [σ sq5 L5.length cq5]), (k9, 30, [O ι st, σ sA xs.length cA, σ zp23 ss.length cB, O ι off]), (k10, 30, [O ι sta, σ aA xa.length acA, σ aB sa.length acB, O ι offa]), (k11, 30, [O ι st1, σ sA5 xs5.length cA5, σ sB5 ss5.length cB5, O ι off5])] := PZ2.set 7 rfl 3 (O ι off5)
     have q90 := q9.set 0 (O ι st1)
     have q91 := q90.set 1 (σ sA5 xs5.length cA5)
     have q92 := q91.set 2 (σ sB5 ss5.length cB5)
     have IYy := hide ((((IYx.out.box (o := 0) (u := O ι st1) q9 (by decide)).box (o := 1) (u := σ sA5 xs5.length cA5) q90 (by decide)).box (o := 2) (u := σ sB5 ss5.length cB5) q91 (by decide)).box (o := 3) (u := O ι off5) q92 (by decide))
     have LOy := hide ((((LOx.out.box (o := 0) (u := O ι st1) q9 (by decide)).box (o := 1) (u := σ sA5 xs5.length cA5) q90 (by decide)).box (o := 2) (u := σ sB5 ss5.length cB5) q91 (by decide)).box (o := 3) (u := O ι off5) q92 (by decide))
     have AOy := hide ((((AOx.out.box (o := 0) (u := O ι st1) q9 (by decide)).box (o := 1) (u := σ sA5 xs5.length cA5) q90 (by decide)).box (o := 2) (u := σ sB5 ss5.length cB5) q91 (by decide)).box (o := 3) (u := O ι off5) q92 (by decide))
     have AAy := hide ((((AAx.out.box (o := 0) (u := O ι st1) q9 (by decide)).box (o := 1) (u := σ sA5 xs5.length cA5) q90 (by decide)).box (o := 2) (u := σ sB5 ss5.length cB5) q91 (by decide)).box (o := 3) (u := O ι off5) q92 (by decide))
     have ADy := hide ((((ADx.out.box (o := 0) (u := O ι st1) q9 (by decide)).box (o := 1) (u := σ sA5 xs5.length cA5) q90 (by decide)).box (o := 2) (u := σ sB5 ss5.length cB5) q91 (by decide)).box (o := 3) (u := O ι off5) q92 (by decide))
     have PY := hide PZ3
     clear PZ0 PZ1 PZ2 PZ3 q9 q90 q91 q92 c90 c91 c92 c93 f9
     refine hK.out _ _ trivial (fun h => absurd (show true = false from h.symm.trans (by kernel_rfl)) Bool.noConfusion) ?_
     clear hK K
     try simp only [aP, sT, sZ, sS]
     generalize ((((Vx.setCell ⟨k11, 0, none⟩ (O ι st1)).setCell ⟨k11, 1, none⟩ (σ sA5 xs5.length cA5)).setCell ⟨k11, 2, none⟩ (σ sB5 ss5.length cB5)).setCell ⟨k11, 3, none⟩ (O ι off5)) = Vy at PY IYy LOy AOy AAy ADy ⊢
     refine zd1 (by kernel_rfl) ?_ _
     refine ⟨rfl, ?_⟩
     go_wp2_with fail
     go_meet
     case rel => exact ⟨k11, _, _, L5, st1, _, _, _, _, xs5, ss5, off5, rfl, PY.out, HO5.out, HL5.out.trans hLq.symm, by omega, ADy.out, AOy.out, AAy.out⟩
   ·refine ⟨_, rfl, fun K hK => ?_⟩
    go_simp
    have PA6 : Hid (PBx w (W4d.alloc (χ #[O ι 0, σ none 0 0, σ none 0 0, O ι 0] 30)) H b (σ sq L.length cq) L [(w.heap.size, 25, [σ none 0 0]), (w.heap.size + 1, 30, [O ι 0, σ none 0 0, σ none 0 0, O ι 0]), (w.heap.size + 1 + 1, 30, [O ι 0, σ none 0 0, σ none 0 0, O ι 0]), (w.heap.size + 1 + 1 + 1, 30, [O ι 0, σ none 0 0, σ none 0 0, O ι 0]), (k7, 25, [σ sq L.length cq]), (k9, 30, [O ι st, σ sA xs.length cA, σ zp23 ss.length cB, O ι off]), (k10, 30, [O ι sta, σ aA xa.length acA, σ aB sa.length acB, O ι offa]), (W4d.heap.size, 30, [O ι 0, σ none 0 0, σ none 0 0, O ι 0])]) := by
     show PBx _ _ _ _ _ _ _
     have := P4d.out.new #[O ι 0, σ none 0 0, σ none 0 0, O ι 0] 30 (Or.inr rfl)
     simpa using this
    have IY6 := hide (IY0.out.bel ((Below.refl W4d.heap.size W4d).alloc (Nat.le_refl _) (χ #[O ι 0, σ none 0 0, σ none 0 0, O ι 0] 30)))
    have LO6 := hide (LO0.out.bel ((Below.refl W4d.heap.size W4d).alloc (Nat.le_refl _) (χ #[O ι 0, σ none 0 0, σ none 0 0, O ι 0] 30)))
    have AO6 := hide (AO0.out.bel ((Below.refl W4d.heap.size W4d).alloc (Nat.le_refl _) (χ #[O ι 0, σ none 0 0, σ none 0 0, O ι 0] 30)))
    have AA6 := hide (AA0.out.bel ((Below.refl W4d.heap.size W4d).alloc (Nat.le_refl _) (χ #[O ι 0, σ none 0 0, σ none 0 0, O ι 0] 30)))
    have SB6 : Hid ((fun w' : World => w'.cell? ⟨k7, 0, none⟩ = some (σ sq L.length cq)) (W4d.alloc (χ #[O ι 0, σ none 0 0, σ none 0 0, O ι 0] 30))) := (show Bx _ k7 25 [σ sq L.length cq] from (PA6.out.bx 4 _ rfl).1).cell 0 rfl
    refine hK.out _ _ trivial (fun _ => SB6.out) ?_
    clear hK K
    try simp only [aP, sT, sZ, sS]
    generalize hk96 : W4d.heap.size = k11 at PA6 ⊢
    generalize (W4d.alloc (χ #[O ι 0, σ none 0 0, σ none 0 0, O ι 0] 30)) = V6 at PA6 IY6 LO6 AO6 AA6 SB6 ⊢
    clear hk96
    refine zi (i := 5) (by kernel_rfl) rfl (fun K hK => ?_)
    go_simp
    refine (zk1 PA6.out.sf PA6.out.dh (by have := PA6.out.dg.cnt; omega)).mono ?_
    rintro e U7 ⟨sti7, rfl, hst07, hst17, sU7, gU7⟩
    obtain ⟨st7, hste7⟩ : ∃ st7 : Nat, sti7 = (st7 : Int) := ⟨sti7.toNat, by omega⟩
    subst hste7
    have hstl7 : st7 < L.length := by omega
    have PU7 := hide (PA6.out.gb gU7 sU7.src)
    have IY7 := hide (IY6.out.kf sU7.kf hbH)
    have LO7 := hide (LO6.out.kf sU7.kf hbH)
    have AO7 := hide (AO6.out.kf sU7.kf hbH)
    have AA7 := hide (AA6.out.kf sU7.kf hbA)
    have SB7 : Hid ((fun w' : World => w'.cell? ⟨k7, 0, none⟩ = some (σ sq L.length cq)) U7) := (show Bx _ k7 25 [σ sq L.length cq] from (PU7.out.bx 4 _ rfl).1).cell 0 rfl
    clear sU7 gU7 hst07 hst17
    refine hK.out _ _ trivial (fun _ => SB7.out) ?_
    clear hK K
    try simp only [aP, sT, sZ, sS]
    refine zi (i := 6) (by kernel_rfl) rfl (fun K hK => ?_)
    go_simp
    refine (zy2 PU7.out.sf PU7.out.dh PU7.out.dg HO.out IY7.out.ik HSM.out hstl7).mono ?_
    rintro e U8 ⟨svv8, L8, vA8, vB8, xs8, ss8, off8, rfl, hD8, hG8, hO8, hL8, hV8, hlx8, hls8, sU8⟩
    obtain ⟨sq8, cq8, rfl⟩ := hD8.form
    obtain ⟨sA8, cA8, rfl, _⟩ := zh hV8.a
    obtain ⟨sB8, cB8, rfl, _⟩ := zh hV8.c
    have PU8 := hide (PU7.out.kf sU8.kf sU8.src hD8 hG8)
    have AD8 : Hid (AD U8 lob (σ sA8 xs8.length cA8) (σ sB8 ss8.length cB8) xs8 ss8) := ⟨hV8.low LO7.out, hlx8, hls8⟩
    have HO8 := hide hO8
    have HL8 := hide hL8
    have hbl : b < lob := by omega
    have IY8 := hide (IY7.out.kf sU8.kf hbH)
    have LO8 := hide (LO7.out.kf sU8.kf hbH)
    have AO8 := hide (AO7.out.kf sU8.kf hbH)
    have AA8 := hide (AA7.out.kf sU8.kf hbA)
    clear sU8 hD8 hG8 hO8 hL8 hV8 hlx8 hls8
    have SB8 : Hid ((fun w' : World => w'.cell? ⟨k7, 0, none⟩ = some (σ sq L.length cq)) U8) := (show Bx _ k7 25 [σ sq L.length cq] from (PU8.out.bx 4 _ rfl).1).cell 0 rfl
    refine hK.out _ _ trivial (fun _ => SB8.out) ?_
    clear hK K
    try simp only [aP, sT, sZ, sS]
    refine zj (i := 7) (v := .tuple #[γ #[σ sq8 L8.length cq8], γ #[O ι st7, σ sA8 xs8.length cA8, σ sB8 ss8.length cB8, O ι off8]]) rfl (by kernel_rfl) (by kernel_rfl) (fun _ _ _ h => by cases h.1) _ (by kernel_rfl) (by kernel_rfl) (Or.inl ⟨by rfl, ?_⟩) trivial (fun _ => SB8.out) ?_
    ·intro w' _
     go_simp
    try simp only [aP, sT, sZ, sS]
    refine zj (i := 8) (v := γ #[σ sq8 L8.length cq8]) rfl (by kernel_rfl) (by kernel_rfl) (fun _ _ _ h => by cases h.1) _ (by kernel_rfl) (by kernel_rfl) (Or.inl ⟨by rfl, ?_⟩) trivial (fun _ => SB8.out) ?_
    ·intro w' _
     go_simp
    try simp only [aP, sT, sZ, sS]
    refine zj (i := 9) (v := γ #[O ι st7, σ sA8 xs8.length cA8, σ sB8 ss8.length cB8, O ι off8]) rfl (by kernel_rfl) (by kernel_rfl) (fun _ _ _ h => by cases h.1) _ (by kernel_rfl) (by kernel_rfl) (Or.inl ⟨by rfl, ?_⟩) trivial (fun _ => SB8.out) ?_
    ·intro w' _
     go_simp
    try simp only [aP, sT, sZ, sS]
    refine zi (i := 11) (by kernel_rfl) rfl (fun K hK => ?_)
    have q7 := (show Bx _ k7 25 [σ sq L.length cq] from (PU8.out.bx 4 _ rfl).1)
    have c7 := q7.cell 0 rfl
    have f7 := q7.fz 0
    go_simp
    have PX : Hid (PBx w (U8.setCell ⟨k7, 0, none⟩ (σ sq8 L8.length cq8)) H b (σ sq8 L8.length cq8) L8 [(w.heap.size, 25, [σ none 0 0]), (w.heap.size + 1, 30, [O ι 0, σ none 0 0, σ none 0 0, O ι 0]), (w.heap.size + 1 + 1, 30, [O ι 0, σ none 0 0, σ none 0 0, O ι 0]), (w.heap.size + 1 + 1 + 1, 30, [O ι 0, σ none 0 0, σ none 0 0, O ι 0]), (k7, 25, [σ sq8 L8.length cq8]), (k9, 30, [O ι st, σ sA xs.length cA, σ zp23 ss.length cB, O ι off]), (k10, 30, [O ι sta, σ aA xa.length acA, σ aB sa.length acB, O ι offa]), (k11, 30, [O ι 0, σ none 0 0, σ none 0 0, O ι 0])]) := PU8.out.set 4 rfl 0 (σ sq8 L8.length cq8)
    have IYx := hide (IY8.out.box (o := 0) (u := σ sq8 L8.length cq8) q7 (by decide))
    have LOx := hide (LO8.out.box (o := 0) (u := σ sq8 L8.length cq8) q7 (by decide))
    have AOx := hide (AO8.out.box (o := 0) (u := σ sq8 L8.length cq8) q7 (by decide))
    have AAx := hide (AA8.out.box (o := 0) (u := σ sq8 L8.length cq8) q7 (by decide))
    have ADx := hide (AD8.out.box (o := 0) (u := σ sq8 L8.length cq8) q7 (by decide))
    clear q7 c7 f7
    refine hK.out _ _ trivial (fun h => absurd (show true = false from h.symm.trans (by kernel_rfl)) Bool.noConfusion) ?_
    clear hK K
    try simp only [aP, sT, sZ, sS]
    generalize U8.setCell ⟨k7, 0, none⟩ (σ sq8 L8.length cq8) = Vx at PX IYx LOx AOx AAx ADx ⊢
    refine zi (i := 12) (by kernel_rfl) rfl (fun K hK => ?_)
    have q9 := (show Bx _ k11 30 [O ι 0, σ none 0 0, σ none 0 0, O ι 0] from (PX.out.bx 7 _ rfl).1)
    have c90 := q9.cell 0 rfl
    have c91 := q9.cell 1 rfl
    have c92 := q9.cell 2 rfl
    have c93 := q9.cell 3 rfl
    have f9 := fun o => q9.fz o
    go_simp
    have PZ0 : PBx w (Vx.setCell ⟨k11, 0, none⟩ (O ι st7)) H b (σ sq8 L8.length cq8) L8 [(w.heap.size, 25, [σ none 0 0]), (w.heap.size + 1, 30, [O ι 0, σ none 0 0, σ none 0 0, O ι 0]), (w.heap.size + 1 + 1, 30, [O ι 0, σ none 0 0, σ none 0 0, O ι 0]), (w.heap.size + 1 + 1 + 1, 30, [O ι 0, σ none 0 0, σ none 0 0, O ι 0]), (k7, 25, [σ sq8 L8.length cq8]), (k9, 30, [O ι st, σ sA xs.length cA, σ zp23 ss.length cB, O ι off]), (k10, 30, [O ι sta, σ aA xa.length acA, σ aB sa.length acB, O ι offa]), (k11, 30, [O ι st7, σ none 0 0, σ none 0 0, O ι 0])] := PX.out.set 7 rfl 0 (O ι st7)
    have PZ1 : PBx w ((Vx.setCell ⟨k11, 0, none⟩ (O ι st7)).setCell ⟨k11, 1, none⟩ (σ sA8 xs8.length cA8)) H b (σ sq8 L8.length cq8) L8 [(w.heap.size, 25, [σ none 0 0]), (w.heap.size + 1, 30, [O ι 0, σ none 0 0, σ none 0 0, O ι 0]), (w.heap.size + 1 + 1, 30, [O ι 0, σ none 0 0, σ none 0 0, O ι 0]), (w.heap.size + 1 + 1 + 1, 30, [O ι 0, σ none 0 0, σ none 0 0, O ι 0]), (k7, 25, [σ sq8 L8.length cq8]), (k9, 30, [O ι st, σ sA xs.length cA, σ zp23 ss.length cB, O ι off]), (k10, 30, [O ι sta, σ aA xa.length acA, σ aB sa.length acB, O ι offa]), (k11, 30, [O ι st7, σ sA8 xs8.length cA8, σ none 0 0, O ι 0])] := PZ0.set 7 rfl 1 (σ sA8 xs8.length cA8)
    have PZ2 : PBx w (((Vx.setCell ⟨k11, 0, none⟩ (O ι st7)).setCell ⟨k11, 1, none⟩ (σ sA8 xs8.length cA8)).setCell ⟨k11, 2, none⟩ (σ sB8 ss8.length cB8)) H b (σ sq8 L8.length cq8) L8 [(w.heap.size, 25, [σ none 0 0]), (w.heap.size + 1, 30, [O ι 0, σ none 0 0, σ none 0 0, O ι 0]), (w.heap.size + 1 + 1, 30, [O ι 0, σ none 0 0, σ none 0 0, O ι 0]), (w.heap.size + 1 + 1 + 1, 30, [O ι 0, σ none 0 0, σ none 0 0, O ι 0]), (k7, 25, [σ sq8 L8.length cq8]), (k9, 30, [O ι st, σ sA xs.length cA, σ zp23 ss.length cB, O ι off]), (k10, 30, [O ι sta, σ aA xa.length acA, σ aB sa.length acB, O ι offa]), (k11, 30, [O ι st7, σ sA8 xs8.length cA8, σ sB8 ss8.length cB8, O ι 0])] := PZ1.set 7 rfl 2 (σ sB8 ss8.length cB8)
    have PZ3 : PBx w ((((Vx.setCell ⟨k11, 0, none⟩ (O ι st7)).setCell ⟨k11, 1, none⟩ (σ sA8 xs8.length cA8)).setCell ⟨k11, 2, none⟩ (σ sB8 ss8.length cB8)).setCell ⟨k11, 3, none⟩ (O ι off8)) H b (σ sq8 L8.length cq8) L8 [(w.heap.size, 25, [σ none 0 0]), (w.heap.size + 1, 30, [O ι 0, σ none 0 0, σ none 0 0, O ι 0]), (w.heap.size + 1 + 1, 30, [O ι 0, σ none 0 0, σ none 0 0, O ι 0]), (w.heap.size + 1 + 1 + 1, 30, [O ι 0, σ none 0 0, σ none 0 0, O ι 0]), (k7, 25, [σ sq8 L8.length cq8]), (k9, 30, [O ι st, σ sA xs.length cA, σ zp23 ss.length cB, O ι off]), (k10, 30, [O ι sta, σ aA xa.length acA, σ aB sa.length acB, O ι offa]), (k11, 30, [O ι st7, σ sA8 xs8.length cA8, σ sB8 ss8.length cB8, O ι off8])] := PZ2.set 7 rfl 3 (O ι off8)
    have q90 := q9.set 0 (O ι st7)
    have q91 := q90.set 1 (σ sA8 xs8.length cA8)
    have q92 := q91.set 2 (σ sB8 ss8.length cB8)
    have IYy := hide ((((IYx.out.box (o := 0) (u := O ι st7) q9 (by decide)).box (o := 1) (u := σ sA8 xs8.length cA8) q90 (by decide)).box (o := 2) (u := σ sB8 ss8.length cB8) q91 (by decide)).box (o := 3) (u := O ι off8) q92 (by decide))
    have LOy := hide ((((LOx.out.box (o := 0) (u := O ι st7) q9 (by decide)).box (o := 1) (u := σ sA8 xs8.length cA8) q90 (by decide)).box (o := 2) (u := σ sB8 ss8.length cB8) q91 (by decide)).box (o := 3) (u := O ι off8) q92 (by decide))
    have AOy := hide ((((AOx.out.box (o := 0) (u := O ι st7) q9 (by decide)).box (o := 1) (u := σ sA8 xs8.length cA8) q90 (by decide)).box (o := 2) (u := σ sB8 ss8.length cB8) q91 (by decide)).box (o := 3) (u := O ι off8) q92 (by decide))
    have AAy := hide ((((AAx.out.box (o := 0) (u := O ι st7) q9 (by decide)).box (o := 1) (u := σ sA8 xs8.length cA8) q90 (by decide)).box (o := 2) (u := σ sB8 ss8.length cB8) q91 (by decide)).box (o := 3) (u := O ι off8) q92 (by decide))
    have ADy := hide ((((ADx.out.box (o := 0) (u := O ι st7) q9 (by decide)).box (o := 1) (u := σ sA8 xs8.length cA8) q90 (by decide)).box (o := 2) (u := σ sB8 ss8.length cB8) q91 (by decide)).box (o := 3) (u := O ι off8) q92 (by decide))
    have PY := hide PZ3
    clear PZ0 PZ1 PZ2 PZ3 q9 q90 q91 q92 c90 c91 c92 c93 f9
    refine hK.out _ _ trivial (fun h => absurd (show true = false from h.symm.trans (by kernel_rfl)) Bool.noConfusion) ?_
    clear hK K
    try simp only [aP, sT, sZ, sS]
    generalize ((((Vx.setCell ⟨k11, 0, none⟩ (O ι st7)).setCell ⟨k11, 1, none⟩ (σ sA8 xs8.length cA8)).setCell ⟨k11, 2, none⟩ (σ sB8 ss8.length cB8)).setCell ⟨k11, 3, none⟩ (O ι off8)) = Vy at PY IYy LOy AOy AAy ADy ⊢
    refine zd1 (by kernel_rfl) ?_ _
    refine ⟨rfl, ?_⟩
    go_wp2_with fail
    go_meet
    case rel => exact ⟨k11, _, _, L8, st7, _, _, _, _, xs8, ss8, off8, rfl, PY.out, HO8.out, HL8.out.trans hLq.symm, by omega, ADy.out, AOy.out, AAy.out⟩
 case rest =>
 obtain ⟨k11, sq, cq, L, stb, bA, bB, bcA, bcB, xb, sb, offb, rfl, hP, hO, hL, hstb, _, hOut, hA⟩ := hcut
 obtain ⟨W7, rfl⟩ : ∃ W7, W7 = wc := ⟨_, rfl⟩
 have P7 := hide hP
 have AO7 := hide hOut
 have AA7 := hide hA
 have hsta2 : (sta : Int) < (ssOf L).length := by rw [ze2]; omega
 have hstb2 : (stb : Int) < (ssOf L).length := by rw [ze2]; omega
 clear hP hO hL hOut hA hLq P4d HO IY0 AO0 AA0 LO0 hlob
 go_wp2_with fail
 refine (P7.out.sf.next 10).mono ?_
 rintro e W8 ⟨z8, rfl, _, s8, m8⟩
 have P8 := hide (P7.out.mut s8.src m8)
 have AO8 := hide (AO7.out.mut m8 hbH)
 have AA8 := hide (AA7.out.mut m8 hbA)
 clear s8 m8 P7 AO7 AA7
 go_upto_region 8 with fail
 go_cut [13] (fun s13 wx => ∃ pz : Int, s13 = O ι pz ∧ (PBx w wx H b (σ sq L.length cq) L [(w.heap.size, 25, [σ none 0 0]), (w.heap.size + 1, 30, [O ι 0, σ none 0 0, σ none 0 0, O ι 0]), (w.heap.size + 1 + 1, 30, [O ι 0, σ none 0 0, σ none 0 0, O ι 0]), (w.heap.size + 1 + 1 + 1, 30, [O ι 0, σ none 0 0, σ none 0 0, O ι 0]), (k7, 25, [σ sq L.length cq]), (k9, 30, [O ι st, σ sA xs.length cA, σ zp23 ss.length cB, O ι off]), (k10, 30, [O ι sta, σ aA xa.length acA, σ aB sa.length acB, O ι offa]), (k11, 30, [O ι stb, σ bA xb.length bcA, σ bB sb.length bcB, O ι offb])] ∧ AD wx H (σ sA xs.length cA) (σ zp23 ss.length cB) xs ss ∧ AD wx loa (σ aA xa.length acA) (σ aB sa.length acB) xa sa))
 case first =>
  as_aux_lemma =>
   have P8d := hide P8.out.drew
   have AO8d := hide (AO8.out.bel (zz W8))
   have AA8d := hide (AA8.out.bel (zz W8))
   have SA : Hid ((fun w' : World => w'.cell? ⟨k7, 0, none⟩ = some (σ sq L.length cq) ∧ w'.cell? ⟨k10, 0, none⟩ = some (O ι sta) ∧ w'.cell? ⟨k10, 1, none⟩ = some (σ aA xa.length acA) ∧ w'.cell? ⟨k10, 2, none⟩ = some (σ aB sa.length acB) ∧ w'.cell? ⟨k10, 3, none⟩ = some (O ι offa) ∧ w'.cell? ⟨k11, 0, none⟩ = some (O ι stb) ∧ w'.cell? ⟨k11, 1, none⟩ = some (σ bA xb.length bcA) ∧ w'.cell? ⟨k11, 2, none⟩ = some (σ bB sb.length bcB) ∧ w'.cell? ⟨k11, 3, none⟩ = some (O ι offb)) W8.drew) := ⟨(show Bx _ k7 25 [σ sq L.length cq] from (P8d.out.bx 4 _ rfl).1).cell 0 rfl, (show Bx _ k10 30 [O ι sta, σ aA xa.length acA, σ aB sa.length acB, O ι offa] from (P8d.out.bx 6 _ rfl).1).cell 0 rfl, (show Bx _ k10 30 [O ι sta, σ aA xa.length acA, σ aB sa.length acB, O ι offa] from (P8d.out.bx 6 _ rfl).1).cell 1 rfl, (show Bx _ k10 30 [O ι sta, σ aA xa.length acA, σ aB sa.length acB, O ι offa] from (P8d.out.bx 6 _ rfl).1).cell 2 rfl, (show Bx _ k10 30 [O ι sta, σ aA xa.length acA, σ aB sa.length acB, O ι offa] from (P8d.out.bx 6 _ rfl).1).cell 3 rfl, (show Bx _ k11 30 [O ι stb, σ bA xb.length bcA, σ bB sb.length bcB, O ι offb] from (P8d.out.bx 7 _ rfl).1).cell 0 rfl, (show Bx _ k11 30 [O ι stb, σ bA xb.length bcA, σ bB sb.length bcB, O ι offb] from (P8d.out.bx 7 _ rfl).1).cell 1 rfl, (show Bx _ k11 30 [O ι stb, σ bA xb.length bcA, σ bB sb.length bcB, O ι offb] from (P8d.out.bx 7 _ rfl).1).cell 2 rfl, (show Bx _ k11 30 [O ι stb, σ bA xb.length bcA, σ bB sb.length bcB, O ι offb] from (P8d.out.bx 7 _ rfl).1).cell 3 rfl⟩
   refine zv (S := (fun w' : World => w'.cell? ⟨k7, 0, none⟩ = some (σ sq L.length cq) ∧ w'.cell? ⟨k10, 0, none⟩ = some (O ι sta) ∧ w'.cell? ⟨k10, 1, none⟩ = some (σ aA xa.length acA) ∧ w'.cell? ⟨k10, 2, none⟩ = some (σ aB sa.length acB) ∧ w'.cell? ⟨k10, 3, none⟩ = some (O ι offa) ∧ w'.cell? ⟨k11, 0, none⟩ = some (O ι stb) ∧ w'.cell? ⟨k11, 1, none⟩ = some (σ bA xb.length bcA) ∧ w'.cell? ⟨k11, 2, none⟩ = some (σ bB sb.length bcB) ∧ w'.cell? ⟨k11, 3, none⟩ = some (O ι offb))) (late := []) (by kernel_rfl) ?_
   generalize W8.drew = W8d at SA P8d AO8d AA8d ⊢
   refine zd (i := 0) (v := γ #[σ sq L.length cq]) rfl (by kernel_rfl) (by kernel_rfl) (fun _ _ _ h => by cases h.1) _ (by kernel_rfl) (by kernel_rfl) (Or.inl ⟨by rfl, ?_⟩) SA.out ?_
   ·rintro w' ⟨z0, z1, z2, z3, z4, z5, z6, z7, z8⟩
    go_simp
   simp only [aP, sT, sZ, sS]
   refine zd (i := 1) (v := γ #[O ι sta, σ aA xa.length acA, σ aB sa.length acB, O ι offa]) rfl (by kernel_rfl) (by kernel_rfl) (fun _ _ _ h => by cases h.1) _ (by kernel_rfl) (by kernel_rfl) (Or.inl ⟨by rfl, ?_⟩) SA.out ?_
   ·rintro w' ⟨z0, z1, z2, z3, z4, z5, z6, z7, z8⟩
    go_simp
   simp only [aP, sT, sZ, sS]
   refine zd (i := 3) (v := γ #[σ sq L.length cq]) rfl (by kernel_rfl) (by kernel_rfl) (fun _ _ _ h => by cases h.1) _ (by kernel_rfl) (by kernel_rfl) (Or.inl ⟨by rfl, ?_⟩) SA.out ?_
   ·rintro w' ⟨z0, z1, z2, z3, z4, z5, z6, z7, z8⟩
    go_simp
   simp only [aP, sT, sZ, sS]
   refine zd (i := 4) (v := γ #[O ι stb, σ bA xb.length bcA, σ bB sb.length bcB, O ι offb]) rfl (by kernel_rfl) (by kernel_rfl) (fun _ _ _ h => by cases h.1) _ (by kernel_rfl) (by kernel_rfl) (Or.inl ⟨by rfl, ?_⟩) SA.out ?_
   ·rintro w' ⟨z0, z1, z2, z3, z4, z5, z6, z7, z8⟩
    go_simp
   simp only [aP, sT, sZ, sS]
   refine ze (i := 2) (by kernel_rfl) rfl (fun K hK => ?_)
   go_simp
   refine (ze3 P8d.out.dh.sv (sta : Int) offa (by omega) hsta2).mono ?_
   rintro e t1 ⟨rfl, x1⟩
   have Q1 := hide (P8d.out.bel x1.bl)
   have AO1 := hide (AO8d.out.bel x1.bl)
   have AA1 := hide (AA8d.out.bel x1.bl)
   generalize ((ssOf L).getD (sta : Int).toNat s0).1 = d1
   have S1 : Hid ((fun w' : World => w'.cell? ⟨k7, 0, none⟩ = some (σ sq L.length cq) ∧ w'.cell? ⟨k10, 0, none⟩ = some (O ι sta) ∧ w'.cell? ⟨k10, 1, none⟩ = some (σ aA xa.length acA) ∧ w'.cell? ⟨k10, 2, none⟩ = some (σ aB sa.length acB) ∧ w'.cell? ⟨k10, 3, none⟩ = some (O ι offa) ∧ w'.cell? ⟨k11, 0, none⟩ = some (O ι stb) ∧ w'.cell? ⟨k11, 1, none⟩ = some (σ bA xb.length bcA) ∧ w'.cell? ⟨k11, 2, none⟩ = some (σ bB sb.length bcB) ∧ w'.cell? ⟨k11, 3, none⟩ = some (O ι offb)) t1) := ⟨(show Bx _ k7 25 [σ sq L.length cq] from (Q1.out.bx 4 _ rfl).1).cell 0 rfl, (show Bx _ k10 30 [O ι sta, σ aA xa.length acA, σ aB sa.length acB, O ι offa] from (Q1.out.bx 6 _ rfl).1).cell 0 rfl, (show Bx _ k10 30 [O ι sta, σ aA xa.length acA, σ aB sa.length acB, O ι offa] from (Q1.out.bx 6 _ rfl).1).cell 1 rfl, (show Bx _ k10 30 [O ι sta, σ aA xa.length acA, σ aB sa.length acB, O ι offa] from (Q1.out.bx 6 _ rfl).1).cell 2 rfl, (show Bx _ k10 30 [O ι sta, σ aA xa.length acA, σ aB sa.length acB, O ι offa] from (Q1.out.bx 6 _ rfl).1).cell 3 rfl, (show Bx _ k11 30 [O ι stb, σ bA xb.length bcA, σ bB sb.length bcB, O ι offb] from (Q1.out.bx 7 _ rfl).1).cell 0 rfl, (show Bx _ k11 30 [O ι stb, σ bA xb.length bcA, σ bB sb.length bcB, O ι offb] from (Q1.out.bx 7 _ rfl).1).cell 1 rfl, (show Bx _ k11 30 [O ι stb, σ bA xb.length bcA, σ bB sb.length bcB, O ι offb] from (Q1.out.bx 7 _ rfl).1).cell 2 rfl, (show Bx _ k11 30 [O ι stb, σ bA xb.length bcA, σ bB sb.length bcB, O ι offb] from (Q1.out.bx 7 _ rfl).1).cell 3 rfl⟩
   refine hK.out _ _ (fun _ => S1.out) ?_
   clear hK K
   try simp only [aP, sT, sZ, sS]
   clear x1 P8d AO8d AA8d
   refine ze (i := 5) (by kernel_rfl) rfl (fun K hK => ?_)
   go_simp
   refine (ze3 Q1.out.dh.sv (stb : Int) offb (by omega) hstb2).mono ?_
   rintro e t2 ⟨rfl, x2⟩
   have Q2 := hide (Q1.out.bel x2.bl)
   have AO2 := hide (AO1.out.bel x2.bl)
   have AA2 := hide (AA1.out.bel x2.bl)
   generalize ((ssOf L).getD (stb : Int).toNat s0).1 = d2
   have S2 : Hid ((fun w' : World => w'.cell? ⟨k7, 0, none⟩ = some (σ sq L.length cq) ∧ w'.cell? ⟨k10, 0, none⟩ = some (O ι sta) ∧ w'.cell? ⟨k10, 1, none⟩ = some (σ aA xa.length acA) ∧ w'.cell? ⟨k10, 2, none⟩ = some (σ aB sa.length acB) ∧ w'.cell? ⟨k10, 3, none⟩ = some (O ι offa) ∧ w'.cell? ⟨k11, 0, none⟩ = some (O ι stb) ∧ w'.cell? ⟨k11, 1, none⟩ = some (σ bA xb.length bcA) ∧ w'.cell? ⟨k11, 2, none⟩ = some (σ bB sb.length bcB) ∧ w'.cell? ⟨k11, 3, none⟩ = some (O ι offb)) t2) := ⟨(show Bx _ k7 25 [σ sq L.length cq] from (Q2.out.bx 4 _ rfl).1).cell 0 rfl, (show Bx _ k10 30 [O ι sta, σ aA xa.length acA, σ aB sa.length acB, O ι offa] from (Q2.out.bx 6 _ rfl).1).cell 0 rfl, (show Bx _ k10 30 [O ι sta, σ aA xa.length acA, σ aB sa.length acB, O ι offa] from (Q2.out.bx 6 _ rfl).1).cell 1 rfl, (show Bx _ k10 30 [O ι sta, σ aA xa.length acA, σ aB sa.length acB, O ι offa] from (Q2.out.bx 6 _ rfl).1).cell 2 rfl, (show Bx _ k10 30 [O ι sta, σ aA xa.length acA, σ aB sa.length acB, O ι offa] from (Q2.out.bx 6 _ rfl).1).cell 3 rfl, (show Bx _ k11 30 [O ι stb, σ bA xb.length bcA, σ bB sb.length bcB, O ι offb] from (Q2.out.bx 7 _ rfl).1).cell 0 rfl, (show Bx _ k11 30 [O ι stb, σ bA xb.length bcA, σ bB sb.length bcB, O ι offb] from (Q2.out.bx 7 _ rfl).1).cell 1 rfl, (show Bx _ k11 30 [O ι stb, σ bA xb.length bcA, σ bB sb.length bcB, O ι offb] from (Q2.out.bx 7 _ rfl).1).cell 2 rfl, (show Bx _ k11 30 [O ι stb, σ bA xb.length bcA, σ bB sb.length bcB, O ι offb] from (Q2.out.bx 7 _ rfl).1).cell 3 rfl⟩
   refine hK.out _ _ (fun _ => S2.out) ?_
   clear hK K
   try simp only [aP, sT, sZ, sS]
   clear x2 Q1 AO1 AA1
   refine ze (i := 6) (by kernel_rfl) rfl (fun K hK => ?_)
   go_simp
   refine (zd6 _ _ _).mono ?_
   rintro e t3 ⟨rfl, rfl⟩
   generalize promL d1 d2 = d3
   refine hK.out _ _ (fun _ => S2.out) ?_
   clear hK K
   try simp only [aP, sT, sZ, sS]
   refine ze (i := 7) (by kernel_rfl) rfl (fun K hK => ?_)
   go_simp
   refine hK.out _ _ (fun _ => S2.out) ?_
   clear hK K
   try simp only [aP, sT, sZ, sS]
   refine zm (by kernel_rfl) ?_ _
   refine ⟨rfl, ?_⟩
   clear SA S1 S2
   go_wp2_with fail
   go_meet
   case rel => exact ⟨_, rfl, Q2.out, AO2.out, AA2.out⟩
 case rest =>
 obtain ⟨pz, rfl, hP, hOut, hA⟩ := hcut
 obtain ⟨W9, rfl⟩ : ∃ W9, W9 = wc := ⟨_, rfl⟩
 have P9 := hide hP
 have AO9 := hide hOut
 have AA9 := hide hA
 clear hP hOut hA P8 AO8 AA8
 go_upto_region 9 with fail
 go_cut [75] (fun s75 wx => ∃ q : Bool, s75 = .bool q ∧ (PBx w wx H b (σ sq L.length cq) L [(w.heap.size, 25, [σ none 0 0]), (w.heap.size + 1, 30, [O ι 0, σ none 0 0, σ none 0 0, O ι 0]), (w.heap.size + 1 + 1, 30, [O ι 0, σ none 0 0, σ none 0 0, O ι 0]), (w.heap.size + 1 + 1 + 1, 30, [O ι 0, σ none 0 0, σ none 0 0, O ι 0]), (k7, 25, [σ sq L.length cq]), (k9, 30, [O ι st, σ sA xs.length cA, σ zp23 ss.length cB, O ι off]), (k10, 30, [O ι sta, σ aA xa.length acA, σ aB sa.length acB, O ι offa]), (k11, 30, [O ι stb, σ bA xb.length bcA, σ bB sb.length bcB, O ι offb])] ∧ AD wx H (σ sA xs.length cA) (σ zp23 ss.length cB) xs ss ∧ AD wx loa (σ aA xa.length acA) (σ aB sa.length acB) xa sa))
 case first =>
  as_aux_lemma =>
   go_wp2_with fail
   refine (zz20 _ _ _).mono ?_
   rintro e _ ⟨⟨q, rfl⟩, rfl⟩
   cases q with
   | true =>
    go_wp2
    go_meet
    case rel => exact ⟨_, rfl, P9.out, AO9.out, AA9.out⟩
   | false =>
    go_wp2_with fail
    refine (P9.out.sf.next 5).mono ?_
    rintro e U1 ⟨z, rfl, _, s, m⟩
    have PU := hide (P9.out.mut s.src m)
    have AOU := hide (AO9.out.mut m hbH)
    have AAU := hide (AA9.out.mut m hbA)
    clear s m P9 AO9 AA9
    go_wp2
    go_meet
    case rel => exact ⟨_, rfl, PU.out, AOU.out, AAU.out⟩
 case rest =>
 obtain ⟨q9, rfl, hP, hOut, hA⟩ := hcut
 obtain ⟨Wa, rfl⟩ : ∃ Wa, Wa = wc := ⟨_, rfl⟩
 have Pa := hide hP
 have AOa := hide hOut
 have AAa := hide hA
 clear hP hOut hA P9 AO9 AA9
 go_upto_if 75 with fail
 go_cut [12] (fun s12 wx => ∃ op : Int, s12 = O ι op ∧ (PBx w wx H b (σ sq L.length cq) L [(w.heap.size, 25, [σ none 0 0]), (w.heap.size + 1, 30, [O ι 0, σ none 0 0, σ none 0 0, O ι 0]), (w.heap.size + 1 + 1, 30, [O ι 0, σ none 0 0, σ none 0 0, O ι 0]), (w.heap.size + 1 + 1 + 1, 30, [O ι 0, σ none 0 0, σ none 0 0, O ι 0]), (k7, 25, [σ sq L.length cq]), (k9, 30, [O ι st, σ sA xs.length cA, σ zp23 ss.length cB, O ι off]), (k10, 30, [O ι sta, σ aA xa.length acA, σ aB sa.length acB, O ι offa]), (k11, 30, [O ι stb, σ bA xb.length bcA, σ bB sb.length bcB, O ι offb])] ∧ AD wx H (σ sA xs.length cA) (σ zp23 ss.length cB) xs ss ∧ AD wx loa (σ aA xa.length acA) (σ aB sa.length acB) xa sa))
 case first =>
  as_aux_lemma =>
   cases q9 with
   | false =>
    go_wp2
    go_meet
    case rel => exact ⟨_, rfl, Pa.out, AOa.out, AAa.out⟩
   | true =>
    go_wp2_with fail
    refine (Pa.out.sf.next 3).mono ?_
    rintro e U1 ⟨z, rfl, _, s, m⟩
    have PU := hide (Pa.out.mut s.src m)
    have AOU := hide (AOa.out.mut m hbH)
    have AAU := hide (AAa.out.mut m hbA)
    clear s m Pa AOa AAa
    go_wp2
    go_meet
    case rel => exact ⟨_, rfl, PU.out, AOU.out, AAU.out⟩
 case rest =>
 obtain ⟨op, rfl, hP, hOut, hA⟩ := hcut
 obtain ⟨Wb, rfl⟩ : ∃ Wb, Wb = wc := ⟨_, rfl⟩
 have Pb := hide hP
 have AOb := hide hOut
 have AAb := hide hA
 clear hP hOut hA Pa AOa AAa
 go_wp2_with fail
 refine (Pb.out.sf.next 40).mono ?_
 rintro e Wc ⟨zc, rfl, _, sc, mc⟩
 have Pc := hide (Pb.out.mut sc.src mc)
 have AOc := hide (AOb.out.mut mc hbH)
 have AAc := hide (AAb.out.mut mc hbA)
 clear sc mc Pb AOb AAb
 go_upto_if 81 with fail
 go_cut [12] (fun s12 wx => ∃ op : Int, s12 = O ι op ∧ (PBx w wx H b (σ sq L.length cq) L [(w.heap.size, 25, [σ none 0 0]), (w.heap.size + 1, 30, [O ι 0, σ none 0 0, σ none 0 0, O ι 0]), (w.heap.size + 1 + 1, 30, [O ι 0, σ none 0 0, σ none 0 0, O ι 0]), (w.heap.size + 1 + 1 + 1, 30, [O ι 0, σ none 0 0, σ none 0 0, O ι 0]), (k7, 25, [σ sq L.length cq]), (k9, 30, [O ι st, σ sA xs.length cA, σ zp23 ss.length cB, O ι off]), (k10, 30, [O ι sta, σ aA xa.length acA, σ aB sa.length acB, O ι offa]), (k11, 30, [O ι stb, σ bA xb.length bcA, σ bB sb.length bcB, O ι offb])] ∧ AD wx H (σ sA xs.length cA) (σ zp23 ss.length cB) xs ss ∧ AD wx loa (σ aA xa.length acA) (σ aB sa.length acB) xa sa))
 case first =>
  as_aux_lemma =>
   rcases Classical.em (zc = 0) with hz | hz
   ·subst hz
    go_wp2_with fail
    refine (Pc.out.sf.next 2).mono ?_
    rintro e U1 ⟨z, rfl, _, s, m⟩
    have PU := hide (Pc.out.mut s.src m)
    have AOU := hide (AOc.out.mut m hbH)
    have AAU := hide (AAc.out.mut m hbA)
    clear s m Pc AOc AAc
    go_wp2
    go_meet
    case rel => exact ⟨_, rfl, PU.out, AOU.out, AAU.out⟩
   ·have dz : (zc == 0) = false := by simp [hz]
    go_wp2
    go_meet
    case rel => exact ⟨_, rfl, Pc.out, AOc.out, AAc.out⟩
 case rest =>
 obtain ⟨op2, rfl, hP, hOut, hA⟩ := hcut
 obtain ⟨Wd, rfl⟩ : ∃ Wd, Wd = wc := ⟨_, rfl⟩
 have Pd := hide hP
 have AOd := hide hOut
 have AAd := hide hA
 clear hP hOut hA Pc AOc AAc
 have q7 := (show Bx _ k7 25 [σ sq L.length cq] from (Pd.out.bx 4 _ rfl).1)
 have c7 := q7.cell 0 rfl
 have q9 := (show Bx _ k9 30 [O ι st, σ sA xs.length cA, σ zp23 ss.length cB, O ι off] from (Pd.out.bx 5 _ rfl).1)
 have c90 := q9.cell 0 rfl
 have c91 := q9.cell 1 rfl
 have c92 := q9.cell 2 rfl
 have c93 := q9.cell 3 rfl
 go_wp2_with fail
 refine (zq10 Pd.out.sx (Nat.le_trans Pd.out.hH Pd.out.size) Pd.out.dh Pd.out.dg AOd.out.dv AOd.out.lx AOd.out.ls).mono ?_
 rintro e We ⟨sve, Le, ste, xe, se, offe, rfl, hDe, hGe, hVe, hlxe, hlse, hSe, hKe⟩
 obtain ⟨sqe, cqe, rfl⟩ := hDe.form
 have Pe := hide (Pd.out.kx hKe AOd.out.dv.a AOd.out.dv.c hSe hDe hGe)
 have AOe : Hid (AD We H (σ sA xs.length cA) (σ zp23 ss.length cB) xe se) := ⟨hVe, hlxe, hlse⟩
 have AAe := hide (AAd.out.kx hKe hbA (fun j e => ⟨fun q => by have := ((HOB.out j).1 q); have := ((HAB.out j).1 e); omega, fun q => by have := ((HOB.out j).2 q); have := ((HAB.out j).1 e); omega⟩) (fun j e => ⟨fun q => by have := ((HOB.out j).1 q); have := ((HAB.out j).2 e); omega, fun q => by have := ((HOB.out j).2 q); have := ((HAB.out j).2 e); omega⟩))
 clear hDe hGe hVe hlxe hlse hSe hKe Pd AOd AAd q7 c7 q9 c90 c91 c92 c93
 have g7 := (show Bx _ k7 25 [σ sq L.length cq] from (Pe.out.bx 4 _ rfl).1)
 have c7 := g7.cell 0 rfl
 have f7 := g7.fz 0
 have P0e : PBx w (We.setCell ⟨k7, 0, none⟩ (σ sqe Le.length cqe)) H b (σ sqe Le.length cqe) Le [(w.heap.size, 25, [σ none 0 0]), (w.heap.size + 1, 30, [O ι 0, σ none 0 0, σ none 0 0, O ι 0]), (w.heap.size + 1 + 1, 30, [O ι 0, σ none 0 0, σ none 0 0, O ι 0]), (w.heap.size + 1 + 1 + 1, 30, [O ι 0, σ none 0 0, σ none 0 0, O ι 0]), (k7, 25, [σ sqe Le.length cqe]), (k9, 30, [O ι st, σ sA xs.length cA, σ zp23 ss.length cB, O ι off]), (k10, 30, [O ι sta, σ aA xa.length acA, σ aB sa.length acB, O ι offa]), (k11, 30, [O ι stb, σ bA xb.length bcA, σ bB sb.length bcB, O ι offb])] := Pe.out.set 4 rfl 0 (σ sqe Le.length cqe)
 have g9 := (show Bx _ k9 30 [O ι st, σ sA xs.length cA, σ zp23 ss.length cB, O ι off] from (P0e.bx 5 _ rfl).1)
 have AO0e := (AOe.out.box (o := 0) (u := σ sqe Le.length cqe) g7 (by decide))
 have AA0e := (AAe.out.box (o := 0) (u := σ sqe Le.length cqe) g7 (by decide))
 have PZ0 : PBx w ((We.setCell ⟨k7, 0, none⟩ (σ sqe Le.length cqe)).setCell ⟨k9, 0, none⟩ (O ι ste)) H b (σ sqe Le.length cqe) Le [(w.heap.size, 25, [σ none 0 0]), (w.heap.size + 1, 30, [O ι 0, σ none 0 0, σ none 0 0, O ι 0]), (w.heap.size + 1 + 1, 30, [O ι 0, σ none 0 0, σ none 0 0, O ι 0]), (w.heap.size + 1 + 1 + 1, 30, [O ι 0, σ none 0 0, σ none 0 0, O ι 0]), (k7, 25, [σ sqe Le.length cqe]), (k9, 30, [O ι ste, σ sA xs.length cA, σ zp23 ss.length cB, O ι off]), (k10, 30, [O ι sta, σ aA xa.length acA, σ aB sa.length acB, O ι offa]), (k11, 30, [O ι stb, σ bA xb.length bcA, σ bB sb.length bcB, O ι offb])] := P0e.set 5 rfl 0 (O ι ste)
 have AOZ0 := AO0e.box (o := 0) (u := O ι ste) g9 (by decide)
 have AAZ0 := AA0e.box (o := 0) (u := O ι ste) g9 (by decide)
 have z90 := g9.set 0 (O ι ste)
 have PZ1 : PBx w (((We.setCell ⟨k7, 0, none⟩ (σ sqe Le.length cqe)).setCell ⟨k9, 0, none⟩ (O ι ste)).setCell ⟨k9, 1, none⟩ (σ sA xs.length cA)) H b (σ sqe Le.length cqe) Le [(w.heap.size, 25, [σ none 0 0]), (w.heap.size + 1, 30, [O ι 0, σ none 0 0, σ none 0 0, O ι 0]), (w.heap.size + 1 + 1, 30, [O ι 0, σ none 0 0, σ none 0 0, O ι 0]), (w.heap.size + 1 + 1 + 1, 30, [O ι 0, σ none 0 0, σ none 0 0, O ι 0]), (k7, 25, [σ sqe Le.length cqe]), (k9, 30, [O ι ste, σ sA xs.length cA, σ zp23 ss.length cB, O ι off]), (k10, 30, [O ι sta, σ aA xa.length acA, σ aB sa.length acB, O ι offa]), (k11, 30, [O ι stb, σ bA xb.length bcA, σ bB sb.length bcB, O ι offb])] := PZ0.set 5 rfl 1 (σ sA xs.length cA)
 have AOZ1 := AOZ0.box (o := 1) (u := σ sA xs.length cA) z90 (by decide)
 have AAZ1 := AAZ0.box (o := 1) (u := σ sA xs.length cA) z90 (by decide)
 have z91 := z90.set 1 (σ sA xs.length cA)
 have PZ2 : PBx w ((((We.setCell ⟨k7, 0, none⟩ (σ sqe Le.length cqe)).setCell ⟨k9, 0, none⟩ (O ι ste)).setCell ⟨k9, 1, none⟩ (σ sA xs.length cA)).setCell ⟨k9, 2, none⟩ (σ zp23 ss.length cB)) H b (σ sqe Le.length cqe) Le [(w.heap.size, 25, [σ none 0 0]), (w.heap.size + 1, 30, [O ι 0, σ none 0 0, σ none 0 0, O ι 0]), (w.heap.size + 1 + 1, 30, [O ι 0, σ none 0 0, σ none 0 0, O ι 0]), (w.heap.size + 1 + 1 + 1, 30, [O ι 0, σ none 0 0, σ none 0 0, O ι 0]), (k7, 25, [σ sqe Le.length cqe]), (k9, 30, [O ι ste, σ sA xs.length cA, σ zp23 ss.length cB, O ι off]), (k10, 30, [O ι sta, σ aA xa.length acA, σ aB sa.length acB, O ι offa]), (k11, 30, [O ι stb, σ bA xb.length bcA, σ bB sb.length bcB, O ι offb])] := PZ1.set 5 rfl 2 (σ zp23 ss.length cB)
 have AOZ2 := AOZ1.box (o := 2) (u := σ zp23 ss.length cB) z91 (by decide)
 have AAZ2 := AAZ1.box (o := 2) (u := σ zp23 ss.length cB) z91 (by decide)
 have z92 := z91.set 2 (σ zp23 ss.length cB)
 have PZ3 : PBx w (((((We.setCell ⟨k7, 0, none⟩ (σ sqe Le.length cqe)).setCell ⟨k9, 0, none⟩ (O ι ste)).setCell ⟨k9, 1, none⟩ (σ sA xs.length cA)).setCell ⟨k9, 2, none⟩ (σ zp23 ss.length cB)).setCell ⟨k9, 3, none⟩ (O ι offe)) H b (σ sqe Le.length cqe) Le [(w.heap.size, 25, [σ none 0 0]), (w.heap.size + 1, 30, [O ι 0, σ none 0 0, σ none 0 0, O ι 0]), (w.heap.size + 1 + 1, 30, [O ι 0, σ none 0 0, σ none 0 0, O ι 0]), (w.heap.size + 1 + 1 + 1, 30, [O ι 0, σ none 0 0, σ none 0 0, O ι 0]), (k7, 25, [σ sqe Le.length cqe]), (k9, 30, [O ι ste, σ sA xs.length cA, σ zp23 ss.length cB, O ι offe]), (k10, 30, [O ι sta, σ aA xa.length acA, σ aB sa.length acB, O ι offa]), (k11, 30, [O ι stb, σ bA xb.length bcA, σ bB sb.length bcB, O ι offb])] := PZ2.set 5 rfl 3 (O ι offe)
 have AOZ3 := AOZ2.box (o := 3) (u := O ι offe) z92 (by decide)
 have AAZ3 := AAZ2.box (o := 3) (u := O ι offe) z92 (by decide)
 have d90 := (show Bx _ k9 30 [O ι st, σ sA xs.length cA, σ zp23 ss.length cB, O ι off] from (Pe.out.bx 5 _ rfl).1)
 have e90 := d90.cell 0 rfl
 have e91 := d90.cell 1 rfl
 have e92 := d90.cell 2 rfl
 have e93 := d90.cell 3 rfl
 have ef9 := fun o => d90.fz o
 have hk79 : k7 ≠ k9 := Pe.out.ne 4 5 _ _ rfl rfl (by decide)
 have hk97 : k9 ≠ k7 := Ne.symm hk79
 have Pf := hide PZ3
 have AOf := hide AOZ3
 have AAf := hide AAZ3
 clear P0e g7 g9 AO0e AA0e PZ0 PZ1 PZ2 PZ3 AOZ0 AOZ1 AOZ2 AOZ3 AAZ0 AAZ1 AAZ2 AAZ3 d90 Pe AOe AAe z90 z91 z92
 go_upto_region 14 with fail
 generalize (((((We.setCell ⟨k7, 0, none⟩ (σ sqe Le.length cqe)).setCell ⟨k9, 0, none⟩ (O ι ste)).setCell ⟨k9, 1, none⟩ (σ sA xs.length cA)).setCell ⟨k9, 2, none⟩ (σ zp23 ss.length cB)).setCell ⟨k9, 3, none⟩ (O ι offe)) = Wf at Pf AOf AAf ⊢
 clear c7 f7 e90 e91 e92 e93 ef9
 have g7 := (show Bx _ k7 25 [σ sqe Le.length cqe] from (Pf.out.bx 4 _ rfl).1)
 have c7 := g7.cell 0 rfl
 have g10 := (show Bx _ k10 30 [O ι sta, σ aA xa.length acA, σ aB sa.length acB, O ι offa] from (Pf.out.bx 6 _ rfl).1)
 have e0 := g10.cell 0 rfl
 have e1 := g10.cell 1 rfl
 have e2 := g10.cell 2 rfl
 have e3 := g10.cell 3 rfl
 go_wp2_with fail
 refine (zq10 Pf.out.sx (Nat.le_trans Pf.out.hH Pf.out.size) Pf.out.dh Pf.out.dg (AAf.out.dv.low hHla) AAf.out.lx AAf.out.ls).mono ?_
 rintro e Wg ⟨svg, Lg, stg, xg, sg, offg, rfl, hDg, hGg, _, _, _, hSg, hKg⟩
 obtain ⟨sqg, cqg, rfl⟩ := hDg.form
 have Pg := hide (Pf.out.kx hKg (AAf.out.dv.low hHla).a (AAf.out.dv.low hHla).c hSg hDg hGg)
 have AOg := hide (AOf.out.kx hKg hbH (fun j e => ⟨fun q => by have := ((HAB.out j).1 q); have := ((HOB.out j).1 e); omega, fun q => by have := ((HAB.out j).2 q); have := ((HOB.out j).1 e); omega⟩) (fun j e => ⟨fun q => by have := ((HAB.out j).1 q); have := ((HOB.out j).2 e); omega, fun q => by have := ((HAB.out j).2 q); have := ((HOB.out j).2 e); omega⟩))
 clear hDg hGg hSg hKg Pf AOf AAf g7 c7 g10 e0 e1 e2 e3
 have g7 := (show Bx _ k7 25 [σ sqe Le.length cqe] from (Pg.out.bx 4 _ rfl).1)
 have c7 := g7.cell 0 rfl
 have f7 := g7.fz 0
 have P0g : PBx w (Wg.setCell ⟨k7, 0, none⟩ (σ sqg Lg.length cqg)) H b (σ sqg Lg.length cqg) Lg [(w.heap.size, 25, [σ none 0 0]), (w.heap.size + 1, 30, [O ι 0, σ none 0 0, σ none 0 0, O ι 0]), (w.heap.size + 1 + 1, 30, [O ι 0, σ none 0 0, σ none 0 0, O ι 0]), (w.heap.size + 1 + 1 + 1, 30, [O ι 0, σ none 0 0, σ none 0 0, O ι 0]), (k7, 25, [σ sqg Lg.length cqg]), (k9, 30, [O ι ste, σ sA xs.length cA, σ zp23 ss.length cB, O ι offe]), (k10, 30, [O ι sta, σ aA xa.length acA, σ aB sa.length acB, O ι offa]), (k11, 30, [O ι stb, σ bA xb.length bcA, σ bB sb.length bcB, O ι offb])] := Pg.out.set 4 rfl 0 (σ sqg Lg.length cqg)
 have g9 := (show Bx _ k10 30 [O ι sta, σ aA xa.length acA, σ aB sa.length acB, O ι offa] from (P0g.bx 6 _ rfl).1)
 have AO0g := (AOg.out.box (o := 0) (u := σ sqg Lg.length cqg) g7 (by decide))
 have PZ0 : PBx w ((Wg.setCell ⟨k7, 0, none⟩ (σ sqg Lg.length cqg)).setCell ⟨k10, 0, none⟩ (O ι stg)) H b (σ sqg Lg.length cqg) Lg [(w.heap.size, 25, [σ none 0 0]), (w.heap.size + 1, 30, [O ι 0, σ none 0 0, σ none 0 0, O ι 0]), (w.heap.size + 1 + 1, 30, [O ι 0, σ none 0 0, σ none 0 0, O ι 0]), (w.heap.size + 1 + 1 + 1, 30, [O ι 0, σ none 0 0, σ none 0 0, O ι 0]), (k7, 25, [σ sqg Lg.length cqg]), (k9, 30, [O ι ste, σ sA xs.length cA, σ zp23 ss.length cB, O ι offe]), (k10, 30, [O ι stg, σ aA xa.length acA, σ aB sa.length acB, O ι offa]), (k11, 30, [O ι stb, σ bA xb.length bcA, σ bB sb.length bcB, O ι offb])] := P0g.set 6 rfl 0 (O ι stg)
 have AOZ0 := AO0g.box (o := 0) (u := O ι stg) g9 (by decide)
 have z90 := g9.set 0 (O ι stg)
 have PZ1 : PBx w (((Wg.setCell ⟨k7, 0, none⟩ (σ sqg Lg.length cqg)).setCell ⟨k10, 0, none⟩ (O ι stg)).setCell ⟨k10, 1, none⟩ (σ aA xa.length acA)) H b (σ sqg Lg.length cqg) Lg [(w.heap.size, 25, [σ none 0 0]), (w.heap.size + 1, 30, [O ι 0, σ none 0 0, σ none 0 0, O ι 0]), (w.heap.size + 1 + 1, 30, [O ι 0, σ none 0 0, σ none 0 0, O ι 0]), (w.heap.size + 1 + 1 + 1, 30, [O ι 0, σ none 0 0, σ none 0 0, O ι 0]), (k7, 25, [σ sqg Lg.length cqg]), (k9, 30, [O ι ste, σ sA xs.length cA, σ zp23 ss.length cB, O ι offe]), (k10, 30, [O ι stg, σ aA xa.length acA, σ aB sa.length acB, O ι offa]), (k11, 30, [O ι stb, σ bA xb.length bcA, σ bB sb.length bcB, O ι offb])] := PZ0.set 6 rfl 1 (σ aA xa.length acA)
 have AOZ1 := AOZ0.box (o := 1) (u := σ aA xa.length acA) z90 (by decide)
 have z91 := z90.set 1 (σ aA xa.length acA)
 have PZ2 : PBx w ((((Wg.setCell ⟨k7, 0, none⟩ (σ sqg Lg.length cqg)).setCell ⟨k10, 0, none⟩ (O ι stg)).setCell ⟨k10, 1, none⟩ (σ aA xa.length acA)).setCell ⟨k10, 2, none⟩ (σ aB sa.length acB)) H b (σ sqg Lg.length cqg) Lg [(w.heap.size, 25, [σ none 0 0]), (w.heap.size + 1, 30, [O ι 0, σ none 0 0, σ none 0 0, O ι 0]), (w.heap.size + 1 + 1, 30, [O ι 0, σ none 0 0, σ none 0 0, O ι 0]), (w.heap.size + 1 + 1 + 1, 30, [O ι 0, σ none 0 0, σ none 0 0, O ι 0]), (k7, 25, [σ sqg Lg.length cqg]), (k9, 30, [O ι ste, σ sA xs.length cA, σ zp23 ss.length cB, O ι offe]), (k10, 30, [O ι stg, σ aA xa.length acA, σ aB sa.length acB, O ι offa]), (k11, 30, [O ι stb, σ bA xb.length bcA, σ bB sb.length bcB, O ι offb])] := PZ1.set 6 rfl 2 (σ aB sa.length acB)
 have AOZ2 := AOZ1.box (o := 2) (u := σ aB sa.length acB) z91 (by decide)
 have z92 := z91.set 2 (σ aB sa.length acB)
 have PZ3 : PBx w (((((Wg.setCell ⟨k7, 0, none⟩ (σ sqg Lg.length cqg)).setCell ⟨k10, 0, none⟩ (O ι stg)).setCell ⟨k10, 1, none⟩ (σ aA xa.length acA)).setCell ⟨k10, 2, none⟩ (σ aB sa.length acB)).setCell ⟨k10, 3, none⟩ (O ι offg)) H b (σ sqg Lg.length cqg) Lg [(w.heap.size, 25, [σ none 0 0]), (w.heap.size + 1, 30, [O ι 0, σ none 0 0, σ none 0 0, O ι 0]), (w.heap.size + 1 + 1, 30, [O ι 0, σ none 0 0, σ none 0 0, O ι 0]), (w.heap.size + 1 + 1 + 1, 30, [O ι 0, σ none 0 0, σ none 0 0, O ι 0]), (k7, 25, [σ sqg Lg.length cqg]), (k9, 30, [O ι ste, σ sA xs.length cA, σ zp23 ss.length cB, O ι offe]), (k10, 30, [O ι stg, σ aA xa.length acA, σ aB sa.length acB, O ι offg]), (k11, 30, [O ι stb, σ bA xb.length bcA, σ bB sb.length bcB, O ι offb])] := PZ2.set 6 rfl 3 (O ι offg)
 have AOZ3 := AOZ2.box (o := 3) (u := O ι offg) z92 (by decide)
 have d10 := (show Bx _ k10 30 [O ι sta, σ aA xa.length acA, σ aB sa.length acB, O ι offa] from (Pg.out.bx 6 _ rfl).1)
 have e0 := d10.cell 0 rfl
 have e1 := d10.cell 1 rfl
 have e2 := d10.cell 2 rfl
 have e3 := d10.cell 3 rfl
 have ef := fun o => d10.fz o
 have hk710 : k7 ≠ k10 := Pg.out.ne 4 6 _ _ rfl rfl (by decide)
 have hk107 : k10 ≠ k7 := Ne.symm hk710
 have Ph := hide PZ3
 have AOh := hide AOZ3
 clear P0g g7 g9 AO0g PZ0 PZ1 PZ2 PZ3 AOZ0 AOZ1 AOZ2 AOZ3 d10 Pg AOg z90 z91 z92
 go_upto_region 15 with fail
 generalize (((((Wg.setCell ⟨k7, 0, none⟩ (σ sqg Lg.length cqg)).setCell ⟨k10, 0, none⟩ (O ι stg)).setCell ⟨k10, 1, none⟩ (σ aA xa.length acA)).setCell ⟨k10, 2, none⟩ (σ aB sa.length acB)).setCell ⟨k10, 3, none⟩ (O ι offg)) = Wh at Ph AOh ⊢
 clear c7 f7 e0 e1 e2 e3 ef hk710 hk107 hk79 hk97
 have v7 := (show Bx _ k7 25 [σ sqg Lg.length cqg] from (Ph.out.bx 4 _ rfl).1).cell 0 rfl
 have b9 := (show Bx _ k9 30 [O ι ste, σ sA xs.length cA, σ zp23 ss.length cB, O ι offe] from (Ph.out.bx 5 _ rfl).1)
 have b10 := (show Bx _ k10 30 [O ι stg, σ aA xa.length acA, σ aB sa.length acB, O ι offg] from (Ph.out.bx 6 _ rfl).1)
 have b11 := (show Bx _ k11 30 [O ι stb, σ bA xb.length bcA, σ bB sb.length bcB, O ι offb] from (Ph.out.bx 7 _ rfl).1)
 have r0 := (show Bx _ w.heap.size 25 [σ none 0 0] from (Ph.out.bx 0 _ rfl).1)
 have r1 := (show Bx _ (w.heap.size + 1) 30 [O ι 0, σ none 0 0, σ none 0 0, O ι 0] from (Ph.out.bx 1 _ rfl).1)
 have r2 := (show Bx _ (w.heap.size + 1 + 1) 30 [O ι 0, σ none 0 0, σ none 0 0, O ι 0] from (Ph.out.bx 2 _ rfl).1)
 have r3 := (show Bx _ (w.heap.size + 1 + 1 + 1) 30 [O ι 0, σ none 0 0, σ none 0 0, O ι 0] from (Ph.out.bx 3 _ rfl).1)
 have b9_0 := b9.cell 0 rfl
 have b9_1 := b9.cell 1 rfl
 have b9_2 := b9.cell 2 rfl
 have b9_3 := b9.cell 3 rfl
 have b10_0 := b10.cell 0 rfl
 have b10_1 := b10.cell 1 rfl
 have b10_2 := b10.cell 2 rfl
 have b10_3 := b10.cell 3 rfl
 have b11_0 := b11.cell 0 rfl
 have b11_1 := b11.cell 1 rfl
 have b11_2 := b11.cell 2 rfl
 have b11_3 := b11.cell 3 rfl
 have r1_0 := r1.cell 0 rfl
 have r1_1 := r1.cell 1 rfl
 have r1_2 := r1.cell 2 rfl
 have r1_3 := r1.cell 3 rfl
 have r1_f := fun o => r1.fz o
 have r2_0 := r2.cell 0 rfl
 have r2_1 := r2.cell 1 rfl
 have r2_2 := r2.cell 2 rfl
 have r2_3 := r2.cell 3 rfl
 have r2_f := fun o => r2.fz o
 have r3_0 := r3.cell 0 rfl
 have r3_1 := r3.cell 1 rfl
 have r3_2 := r3.cell 2 rfl
 have r3_3 := r3.cell 3 rfl
 have r3_f := fun o => r3.fz o
 have r0_0 := r0.cell 0 rfl
 have r0_f := r0.fz 0
 have nes : ∀ i j, i < 4 → 4 ≤ j → ∀ q r, ([(w.heap.size, 25, [σ none 0 0]), (w.heap.size + 1, 30, [O ι 0, σ none 0 0, σ none 0 0, O ι 0]), (w.heap.size + 1 + 1, 30, [O ι 0, σ none 0 0, σ none 0 0, O ι 0]), (w.heap.size + 1 + 1 + 1, 30, [O ι 0, σ none 0 0, σ none 0 0, O ι 0]), (k7, 25, [σ sqg Lg.length cqg]), (k9, 30, [O ι ste, σ sA xs.length cA, σ zp23 ss.length cB, O ι offe]), (k10, 30, [O ι stg, σ aA xa.length acA, σ aB sa.length acB, O ι offg]), (k11, 30, [O ι stb, σ bA xb.length bcA, σ bB sb.length bcB, O ι offb])] : List Bo)[i]? = some q → ([(w.heap.size, 25, [σ none 0 0]), (w.heap.size + 1, 30, [O ι 0, σ none 0 0, σ none 0 0, O ι 0]), (w.heap.size + 1 + 1, 30, [O ι 0, σ none 0 0, σ none 0 0, O ι 0]), (w.heap.size + 1 + 1 + 1, 30, [O ι 0, σ none 0 0, σ none 0 0, O ι 0]), (k7, 25, [σ sqg Lg.length cqg]), (k9, 30, [O ι ste, σ sA xs.length cA, σ zp23 ss.length cB, O ι offe]), (k10, 30, [O ι stg, σ aA xa.length acA, σ aB sa.length acB, O ι offg]), (k11, 30, [O ι stb, σ bA xb.length bcA, σ bB sb.length bcB, O ι offb])] : List Bo)[j]? = some r → q.1 ≠ r.1 := fun i j hi hj q r h1 h2 => Ph.out.ne i j q r h1 h2 (by omega)
 have n00 : w.heap.size ≠ k7 := nes 0 4 (by decide) (by decide) _ _ rfl rfl
 have m00 : k7 ≠ w.heap.size := Ne.symm n00
 have n01 : w.heap.size ≠ k9 := nes 0 5 (by decide) (by decide) _ _ rfl rfl
 have m01 : k9 ≠ w.heap.size := Ne.symm n01
 have n02 : w.heap.size ≠ k10 := nes 0 6 (by decide) (by decide) _ _ rfl rfl
 have m02 : k10 ≠ w.heap.size := Ne.symm n02
 have n03 : w.heap.size ≠ k11 := nes 0 7 (by decide) (by decide) _ _ rfl rfl
 have m03 : k11 ≠ w.heap.size := Ne.symm n03
 have n10 : w.heap.size + 1 ≠ k7 := nes 1 4 (by decide) (by decide) _ _ rfl rfl
 have m10 : k7 ≠ w.heap.size + 1 := Ne.symm n10
 have n11 : w.heap.size + 1 ≠ k9 := nes 1 5 (by decide) (by decide) _ _ rfl rfl
 have m11 : k9 ≠ w.heap.size + 1 := Ne.symm n11
 have n12 : w.heap.size + 1 ≠ k10 := nes 1 6 (by decide) (by decide) _ _ rfl rfl
 have m12 : k10 ≠ w.heap.size + 1 := Ne.symm n12
 have n13 : w.heap.size + 1 ≠ k11 := nes 1 7 (by decide) (by decide) _ _ rfl rfl
 have m13 : k11 ≠ w.heap.size + 1 := Ne.symm n13
 have n20 : w.heap.size + 1 + 1 ≠ k7 := nes 2 4 (by decide) (by decide) _ _ rfl rfl
 have m20 : k7 ≠ w.heap.size + 1 + 1 := Ne.symm n20
 have n21 : w.heap.size + 1 + 1 ≠ k9 := nes 2 5 (by decide) (by decide) _ _ rfl rfl
 have m21 : k9 ≠ w.heap.size + 1 + 1 := Ne.symm n21
 have n22 : w.heap.size + 1 + 1 ≠ k10 := nes 2 6 (by decide) (by decide) _ _ rfl rfl
 have m22 : k10 ≠ w.heap.size + 1 + 1 := Ne.symm n22
 have n23 : w.heap.size + 1 + 1 ≠ k11 := nes 2 7 (by decide) (by decide) _ _ rfl rfl
 have m23 : k11 ≠ w.heap.size + 1 + 1 := Ne.symm n23
 have n30 : w.heap.size + 1 + 1 + 1 ≠ k7 := nes 3 4 (by decide) (by decide) _ _ rfl rfl
 have m30 : k7 ≠ w.heap.size + 1 + 1 + 1 := Ne.symm n30
 have n31 : w.heap.size + 1 + 1 + 1 ≠ k9 := nes 3 5 (by decide) (by decide) _ _ rfl rfl
 have m31 : k9 ≠ w.heap.size + 1 + 1 + 1 := Ne.symm n31
 have n32 : w.heap.size + 1 + 1 + 1 ≠ k10 := nes 3 6 (by decide) (by decide) _ _ rfl rfl
 have m32 : k10 ≠ w.heap.size + 1 + 1 + 1 := Ne.symm n32
 have n33 : w.heap.size + 1 + 1 + 1 ≠ k11 := nes 3 7 (by decide) (by decide) _ _ rfl rfl
 have m33 : k11 ≠ w.heap.size + 1 + 1 + 1 := Ne.symm n33
 clear nes b9 b10 b11
 have HR0 := hide r0
 have HR1 := hide r1
 have HR2 := hide r2
 have HR3 := hide r3
 clear r0 r1 r2 r3
 go_region
 have D0 : PD w Wh H b _ Lg _ _ _ _ _ := ⟨Ph.out, AOh.out⟩
 have D1 := D0.set 0 rfl 0 (σ sqg Lg.length cqg)
 have D2 := D1.set 1 rfl 0 (O ι stg)
 have D3 := D2.set 1 rfl 1 (σ aA xa.length acA)
 have D4 := D3.set 1 rfl 2 (σ aB sa.length acB)
 have D5 := D4.set 1 rfl 3 (O ι offg)
 have D6 := D5.set 2 rfl 0 (O ι stb)
 have D7 := D6.set 2 rfl 1 (σ bA xb.length bcA)
 have D8 := D7.set 2 rfl 2 (σ bB sb.length bcB)
 have D9 := D8.set 2 rfl 3 (O ι offb)
 have D10 := D9.set 3 rfl 0 (O ι ste)
 have D11 := D10.set 3 rfl 1 (σ sA xs.length cA)
 have D12 := D11.set 3 rfl 2 (σ zp23 ss.length cB)
 have D13 := D12.set 3 rfl 3 (O ι offe)
 have HZ := hide D13.drew
 clear D0 D1 D2 D3 D4 D5 D6 D7 D8 D9 D10 D11 D12 D13
 go_wp2
 refine bodyPost_ret (v := .tuple #[γ #[σ sqg Lg.length cqg], O ι op2, γ #[O ι stg, σ aA xa.length acA, σ aB sa.length acB, O ι offg], γ #[O ι stb, σ bA xb.length bcA, σ bB sb.length bcB, O ι offb], γ #[O ι ste, σ sA xs.length cA, σ zp23 ss.length cB, O ι offe]]) (by simp [results, Tryz.results16, go_sem, r0_0, r1_0, r1_1, r1_2, r1_3, r2_0, r2_1, r2_2, r2_3, r3_0, r3_1, r3_2, r3_3]) rfl ?_
 exact ⟨_, _, Lg, op2, ste, stg, stb, offg, offb, offe, _, _, _, _, _, _, _, _, _, _, _, _, _, _, _, _, _, _, _, _, rfl, HZ.out.p.dg, HZ.out.a, HZ.out.p.nil⟩
end Go.Proofs.YtjbbodfdpbcnhaaGreat
