import Derived.Test.YtjbbodfdpbcnhaaGreatM9
set_option linter.unusedSimpArgs false
set_option linter.unusedVariables false
set_option maxRecDepth 100000
set_option maxHeartbeats 8000000
namespace Go.Proofs.YtjbbodfdpbcnhaaGreat
open List renaming setIfInBounds_toArray → sT, set_cons_zero → sZ, set_cons_succ → sS
open Go.Value renaming int → O, slice → σ, pointer → π, agg → γ
open Go.IntKind renaming i64 → ι
open Go.Obj renaming cells → χ
open Go.Act renaming put → aP
section
open Go.ChangeShapes Go.RowKit FL
theorem zq15 {w : World} {H b : Nat} (hs : SF w w H b) {sv : Value} {L : List Dst} (hD : DH w H sv L) (hG : DG L) (hp : 0 < L.length) :
  Calls Tryz.prog 81 #[γ #[sv], π (some ⟨b, 0, none⟩)] w fun e W => SpoilOk w H b e W := by
 obtain ⟨i0, hi0, hz0, hz1, hz2⟩ := info_parts zy10
 obtain ⟨i6, hi6, hx0, hx1, hx2⟩ := info_parts zk4
 have hbH := hs.hb
 have hHw := hs.hH
 obtain ⟨t0, ht0⟩ : ∃ t0, L[0]? = some t0 := ⟨_, List.getElem?_eq_getElem hp⟩
 obtain ⟨g, cap, rfl, _, _, _, hg1, hg2⟩ := hD.at ht0
 have hL70 := hG.cnt
 have hl0 : ((L.length : Int) == 0) = false := beq_eq_false_iff_ne.2 (by omega)
 have F0 : Hid (SP w ((w.alloc (χ #[σ (some ⟨g, 0, none⟩) L.length cap] 25)).alloc (χ #[σ none 0 0] 25)) H b (σ (some ⟨g, 0, none⟩) L.length cap) L) :=
  ⟨(hs.alloc _).alloc _, (hD.alloc _).alloc _, hG, (Bx.new w 25 #[σ (some ⟨g, 0, none⟩) L.length cap] _ rfl).alloc _, Bx.new (w.alloc (χ #[σ (some ⟨g, 0, none⟩) L.length cap] 25)) 25 #[σ none 0 0] _ (by simp)⟩
 clear hs hD hG ht0
 go_enter Tryz.func81, Tryz.ntmps81
 go_wp2_with fail
 generalize (w.alloc (χ #[σ (some ⟨g, 0, none⟩) L.length cap] 25)).alloc (χ #[σ none 0 0] 25) = W0 at F0 ⊢
 refine (F0.out.sf.next _).mono ?_
 rintro e W1 ⟨iv, rfl, ⟨hi1, hi2, hi3⟩, s1, m1⟩
 have hiL : iv < (L.length : Int) := by
  by_cases q : 1 < (L.length : Int)
  ·exact hi2 q
  ·have := hi3 (by omega); omega
 obtain ⟨i, hi⟩ : ∃ i : Nat, iv = (i : Int) := ⟨iv.toNat, by omega⟩
 subst hi
 have hi0' : (0 : Int) ≤ (i : Int) := Int.natCast_nonneg _
 have F1 := hide (F0.out.mut s1 m1)
 clear s1 m1 F0 hi2 hi3
 go_wp2_with fail
 refine (F1.out.sf.next 6).mono ?_
 rintro e W2 ⟨kv, rfl, ⟨hk0, hk1, _⟩, s2, m2⟩
 have F2 := hide (F1.out.mut s2 m2)
 have hk2 := hk1 (by omega)
 clear s2 m2 F1 hk1
 obtain ⟨t, ht⟩ : ∃ t, L[i]? = some t := ⟨_, List.getElem?_eq_getElem (by omega)⟩
 obtain ⟨g', cap', hgg, e0, e1, fz, _, _⟩ := F2.out.dh.at ht
 simp only [Value.slice.injEq, Option.some.injEq, Addr.mk.injEq, and_true, true_and] at hgg
 obtain ⟨rfl, rfl⟩ := hgg
 obtain ⟨sa, ca, hv, hva⟩ := zd4 (F2.out.dh.cel i _ ht)
 have hfew := F2.out.dg.few _ (List.mem_of_getElem? ht)
 obtain ⟨d, v, cs⟩ := t
 simp only at hv e0 e1 hva hfew
 subst hv
 have HT := hide ht
 clear ht
 have b2 := F2.out.b2.cell 0 rfl
 have b40 := F2.out.b4.cell 0 rfl
 have b4f := F2.out.b4.fz 0
 have fz0 := fz (i * 2)
 have fz1 := fz (i * 2 + 1)
 clear fz
 rcases (show kv = 0 ∨ kv = 1 ∨ kv = 2 ∨ kv = 3 ∨ kv = 4 ∨ kv = 5 by omega) with rfl | rfl | rfl | rfl | rfl | rfl
 · --k0
  go_wp2_with fail
  have SA : Hid ((fun w' : World => w'.cell? ⟨w.heap.size, 0, none⟩ = some (σ (some ⟨g, 0, none⟩) L.length cap)) W2.drew) := b2
  refine zv (S := (fun w' : World => w'.cell? ⟨w.heap.size, 0, none⟩ = some (σ (some ⟨g, 0, none⟩) L.length cap))) (late := [8]) (by kernel_rfl) ?_
  refine zd (i := 0) (v := π (some ⟨w.heap.size, 0, none⟩)) rfl (by kernel_rfl) (by kernel_rfl) (fun _ _ _ h => by cases h.1) _ (by kernel_rfl) (by kernel_rfl) (Or.inl ⟨by rfl, ?_⟩) SA.out ?_
  ·intro w' z0
   go_simp
  simp only [aP, sT, sZ, sS]
  refine zd (i := 1) (v := σ (some ⟨g, 0, none⟩) L.length cap) rfl (by kernel_rfl) (by kernel_rfl) (fun _ _ _ h => by cases h.1) _ (by kernel_rfl) (by kernel_rfl) (Or.inl ⟨by rfl, ?_⟩) SA.out ?_
  ·intro w' z0
   go_simp
  simp only [aP, sT, sZ, sS]
  refine zd (i := 2) (v := O ι i) rfl (by kernel_rfl) (by kernel_rfl) (fun _ _ _ h => by cases h.1) _ (by kernel_rfl) (by kernel_rfl) (Or.inl ⟨by rfl, ?_⟩) SA.out ?_
  ·intro w' z0
   go_simp
  simp only [aP, sT, sZ, sS]
  refine zd (i := 3) (v := π (some ⟨b, 0, none⟩)) rfl (by kernel_rfl) (by kernel_rfl) (fun _ _ _ h => by cases h.1) _ (by kernel_rfl) (by kernel_rfl) (Or.inl ⟨by rfl, ?_⟩) SA.out ?_
  ·intro w' z0
   go_simp
  simp only [aP, sT, sZ, sS]
  refine ze (i := 4) (by kernel_rfl) rfl (fun K hK => ?_)
  go_simp
  refine ((F2.out.sf.drew).next 2).mono ?_
  rintro e t1 ⟨z, rfl, ⟨hz0, hz1, _⟩, s5, m5⟩
  have hz2 := hz1 (by omega)
  have F3 := hide (F2.out.drew.mut s5 m5)
  have S1 : Hid ((fun w' : World => w'.cell? ⟨w.heap.size, 0, none⟩ = some (σ (some ⟨g, 0, none⟩) L.length cap)) t1) := F3.out.b2.cell 0 rfl
  refine hK.out _ _ (fun _ => S1.out) ?_
  clear hK K
  try simp only [aP, sT, sZ, sS]
  clear s5 m5 hz1
  obtain ⟨_, _, hgg, q0, _, qf, _, _⟩ := F3.out.dh.at HT.out
  simp only [Value.slice.injEq, Option.some.injEq, Addr.mk.injEq, and_true, true_and] at hgg
  obtain ⟨rfl, rfl⟩ := hgg
  have qf0 := qf (i * 2)
  clear qf
  simp only at q0
  refine ze (i := 5) (by kernel_rfl) rfl (fun K hK => ?_)
  go_simp
  refine hK.out _ _ (fun _ => S1.out) ?_
  clear hK K
  try simp only [aP, sT, sZ, sS]
  refine ze (i := 6) (by kernel_rfl) rfl (fun K hK => ?_)
  go_simp
  refine hK.out _ _ (fun _ => S1.out) ?_
  clear hK K
  try simp only [aP, sT, sZ, sS]
  refine ze (i := 7) (by kernel_rfl) rfl (fun K hK => ?_)
  go_simp
  refine hK.out _ _ (fun _ => S1.out) ?_
  clear hK K
  try simp only [aP, sT, sZ, sS]
  refine ze (i := 8) (by kernel_rfl) rfl (fun K hK => ?_)
  go_simp
  refine hK.out _ _ (fun h => absurd h (by decide)) ?_
  clear hK K
  try simp only [aP, sT, sZ, sS]
  refine zm (by kernel_rfl) ?_ _
  refine ⟨rfl, ?_⟩
  clear SA S1
  have F4 := hide (F3.out.setDt HT.out (z * 10))
  clear q0 qf0 e0 e1 fz0 fz1 b2 b40 b4f
  have bb2 := F4.out.b2.cell 0 rfl
  have bb4 := F4.out.b4.cell 0 rfl
  have bbf := F4.out.b4.fz 0
  go_wp2
  exact bodyPost_ret (v := γ #[σ (some ⟨g, 0, none⟩) L.length cap]) (by simp [results, Tryz.results81, go_sem, bb4]) rfl F4.out.fin
 ·rcases (show 0 < cs.length ∨ cs.length = 0 by omega) with hc | hc
  ·have hc1 : (0 : Int) < (cs.length : Int) := by omega
   have hc2 : decide ((0 : Int) < (cs.length : Int)) = true := decide_eq_true hc1
   obtain ⟨gc, rfl, _⟩ := hva hc
   have r47 := F2.out.dh.cel i _ HT.out
   have c00 := (r47.cellAt (0 * 3) (by show _ < cs.length * 3; omega)).trans (zh4 cs 0 hc).1
   have cf := r47.frozenAt 0
   have F3 := hide (F2.out.setI (j := 0) (x := 77777777777) HT.out hc (by unfold I64; omega))
   rw [Nat.zero_mul] at F3 c00
   clear r47
   have bb2 := F3.out.b2.cell 0 rfl
   have bb4 := F3.out.b4.cell 0 rfl
   have bbf := F3.out.b4.fz 0
   go_wp2
   exact bodyPost_ret (v := γ #[σ (some ⟨g, 0, none⟩) L.length cap]) (by simp [results, Tryz.results81, go_sem, bb4]) rfl F3.out.fin
  ·have hc2 : decide ((0 : Int) < (cs.length : Int)) = false := decide_eq_false (by omega)
   have bb2 := F2.out.b2.cell 0 rfl
   have bb4 := F2.out.b4.cell 0 rfl
   have bbf := F2.out.b4.fz 0
   go_wp2
   exact bodyPost_ret (v := γ #[σ (some ⟨g, 0, none⟩) L.length cap]) (by simp [results, Tryz.results81, go_sem, bb4]) rfl F2.out.fin
 ·rcases (show 0 < cs.length ∨ cs.length = 0 by omega) with hc | hc
  ·have hc1 : (0 : Int) < (cs.length : Int) := by omega
   have hc2 : decide ((0 : Int) < (cs.length : Int)) = true := decide_eq_true hc1
   obtain ⟨gc, rfl, _⟩ := hva hc
   obtain ⟨j, hj⟩ : ∃ j : Nat, (cs.length : Int) - 1 = (j : Int) := ⟨cs.length - 1, by omega⟩
   have hjl : j < cs.length := by omega
   have hj0 : (0 : Int) ≤ (j : Int) := Int.natCast_nonneg _
   have hj1 : (j : Int) < (cs.length : Int) := by omega
   have r47 := F2.out.dh.cel i _ HT.out
   have c00 := (r47.cellAt (j * 3 + 2) (by show _ < cs.length * 3; omega)).trans (zh4 cs j hjl).2.2
   have cf := r47.frozenAt (j * 3 + 2)
   have F3 := hide (F2.out.setG (j := j) (x := 4607182418800017408) HT.out hjl (by unfold B64; omega)).drew
   clear r47
   go_upto_region 10 with fail
   go_region
   generalize (W2.setCell ⟨gc, j * 3 + 2, none⟩ (.float .f64 4607182418800017408)).drew = W9 at F3 ⊢
   have bb2 := F3.out.b2.cell 0 rfl
   have bb4 := F3.out.b4.cell 0 rfl
   have bbf := F3.out.b4.fz 0
   go_wp2
   exact bodyPost_ret (v := γ #[σ (some ⟨g, 0, none⟩) L.length cap]) (by simp [results, Tryz.results81, go_sem, bb4]) rfl F3.out.fin
  ·have hc2 : decide ((0 : Int) < (cs.length : Int)) = false := decide_eq_false (by omega)
   have bb2 := F2.out.b2.cell 0 rfl
   have bb4 := F2.out.b4.cell 0 rfl
   have bbf := F2.out.b4.fz 0
   go_wp2
   exact bodyPost_ret (v := γ #[σ (some ⟨g, 0, none⟩) L.length cap]) (by simp [results, Tryz.results81, go_sem, bb4]) rfl F2.out.fin
 ·clear e0 e1 fz0 fz1 b2 b40 b4f
  go_wp2_with fail
  refine (F2.out.sf.next 2).mono ?_
  rintro e W3 ⟨z, rfl, ⟨hz0', hz1', _⟩, s3, m3⟩
  have hz2' := hz1' (by omega)
  have F3 := hide (F2.out.mut s3 m3)
  clear s3 m3 hz1' F2 HT
  go_wp2_with fail
  go_loopw [] (fun wr => ∃ (s2 : Option Addr) (c2 : Nat) (L2 : List Dst), SP w wr H b (σ s2 L2.length c2) L2) (fun wr => 70 - lenAt wr w.heap.size 0)
  case atStart => exact ⟨_, _, L, F3.out⟩
  case round =>
   obtain ⟨s2, c2, L2, hF⟩ := hrel
   have HF := hide hF
   clear hF F3
   have bb := HF.out.b2.cell 0 rfl
   have hL2 := HF.out.dg.cnt
   have HLN := hide (zg4 bb)
   by_cases hlt : (L2.length : Int) < 64 + z
   ·have hlt2 : decide ((L2.length : Int) < 64 + z) = true := decide_eq_true hlt
    have Hnew : Hid (∀ q x, ([O ι 1, σ none 0 0] : List Value)[q]? = some x → (wr.alloc (χ #[O ι 1, σ none 0 0] 41)).cell? ((⟨wr.heap.size, 0, none⟩ : Addr).add q) = some x) := fun q x hq => by
     rw [Addr.add_lit, Nat.zero_add, zg wr _ 41 _ rfl q]
     simpa using hq
    have HNO : Hid (∀ u ∈ ([O ι 1, σ none 0 0] : List Value), u.oneCell' = true) := fun u hu => by
     simp at hu
     rcases hu with rfl | rfl <;> rfl
    have hHr : H ≤ wr.heap.size := by have := HF.out.sf.sz; omega
    have HA := hide (HF.out.alloc (χ #[O ι 1, σ none 0 0] 41))
    have HNE : Hid (some w.heap.size ≠ (Value.slice s2 L2.length c2).ownBlock) := HA.out.b2.ne HA.out.dh.own (by decide)
    go_wp2_with (at_builtin; go_loud ((refine wpList_append_lies _ rfl _ _ 23 rfl H 41 i0 (γ #[O ι 0, σ none 0 0]) 2 32 Tryz.underlying23 hi0 hz0 hz1 hz2 rfl (by decide) (σ s2 L2.length c2) L2.length (flatD L2) rfl HA.out.dh.own ⟨wr.heap.size, 0, none⟩ 1 1 [O ι 1, σ none 0 0] rfl rfl Hnew.out HNO.out (by omega) (by unfold maxLen; omega) (by omega) (by simp; omega) (wr.heap.size + 1) (by simp) ?_); intro g9 c9 w9 hown9 hgrow9 hat9 hlt9; have HM := hide (HF.out.more (d := 1) (by omega) hown9 hgrow9); have ch9 := (HA.out.b2.gb hgrow9 HNE.out).cell 0 rfl; have fh9 := (HA.out.b2.gb hgrow9 HNE.out).fz 0; clear hown9 hgrow9 hat9 hlt9))
    go_roundw
    ·exact ⟨_, _, _, by
      have := HM.out
      rw [show L2.length + 1 = (L2 ++ [((1 : Int), Value.slice none 0 0, ([] : List C3))]).length by simp] at this
      rw [show L2.length + 1 = (L2 ++ [((1 : Int), Value.slice none 0 0, ([] : List C3))]).length by simp]
      exact this⟩
    ·rw [HLN.out, zg4 (HM.out.b2.cell 0 rfl)]
     omega
   ·have hlt2 : decide ((L2.length : Int) < 64 + z) = false := decide_eq_false hlt
    have bb2 := HF.out.b2.cell 0 rfl
    have bb4 := HF.out.b4.cell 0 rfl
    have bbf := HF.out.b4.fz 0
    go_wp2
    exact bodyPost_ret (v := γ #[σ s2 L2.length c2]) (by simp [results, Tryz.results81, go_sem, bb4]) rfl HF.out.fin
 ·clear e0 e1 fz0 fz1 b2 b40 b4f hva
  go_wp2_with fail
  refine (F2.out.sf.next 2).mono ?_
  rintro e W3 ⟨z, rfl, ⟨hz0', hz1', _⟩, s3, m3⟩
  have hz2' := hz1' (by omega)
  have F3 := hide (F2.out.mut s3 m3)
  clear s3 m3 hz1' F2 HT
  go_wp2_with fail
  go_loopw [] (fun wr => ∃ (L2 : List Dst), L2.length = L.length ∧ SP w wr H b (σ (some ⟨g, 0, none⟩) L2.length cap) L2) (fun wr => 5001 - lenAt wr g (i * 2 + 1))
  case atStart => exact ⟨L, rfl, F3.out⟩
  case round =>
   obtain ⟨L2, hll, hF⟩ := hrel
   have HF := hide hF
   have HLL := hide hll
   clear hF F3
   obtain ⟨t2, ht2⟩ : ∃ t2, L2[i]? = some t2 := ⟨_, List.getElem?_eq_getElem (by omega)⟩
   obtain ⟨_, _, hgg, _, q1, _, _, _⟩ := HF.out.dh.at ht2
   simp only [Value.slice.injEq, Option.some.injEq, Addr.mk.injEq, and_true, true_and] at hgg
   obtain ⟨rfl, rfl⟩ := hgg
   obtain ⟨sa2, ca2, hv2, _⟩ := zd4 (HF.out.dh.cel i _ ht2)
   have hfew2 := HF.out.dg.few _ (List.mem_of_getElem? ht2)
   obtain ⟨d2, v2, cs2⟩ := t2
   simp only at hv2 q1 hfew2
   subst hv2
   have HT2 := hide ht2
   have bb := HF.out.b2.cell 0 rfl
   have hi2 : (i : Int) < (L2.length : Int) := by omega
   have hL2 : L2.length ≤ 70 := HF.out.dg.cnt
   clear ht2 hll
   by_cases hlt : (cs2.length : Int) < 4096 + z
   ·have hlt2 : decide ((cs2.length : Int) < 4096 + z) = true := decide_eq_true hlt
    go_wp2_with fail
    have SA : Hid ((fun w' : World => w'.cell? ⟨w.heap.size, 0, none⟩ = some (σ (some ⟨g, 0, none⟩) L2.length cap) ∧ w'.cell? ⟨g, i * 2 + 1, none⟩ = some (σ sa2 cs2.length ca2)) wr.drew) := ⟨bb, q1⟩
    refine zv (S := (fun w' : World => w'.cell? ⟨w.heap.size, 0, none⟩ = some (σ (some ⟨g, 0, none⟩) L2.length cap) ∧ w'.cell? ⟨g, i * 2 + 1, none⟩ = some (σ sa2 cs2.length ca2))) (late := [14]) (by kernel_rfl) ?_
    refine zd (i := 0) (v := π (some ⟨w.heap.size, 0, none⟩)) rfl (by kernel_rfl) (by kernel_rfl) (fun _ _ _ h => by cases h.1) _ (by kernel_rfl) (by kernel_rfl) (Or.inl ⟨by rfl, ?_⟩) SA.out ?_
    ·rintro w' ⟨z0, z1⟩
     go_simp
    simp only [aP, sT, sZ, sS]
    refine zd (i := 1) (v := σ (some ⟨g, 0, none⟩) L2.length cap) rfl (by kernel_rfl) (by kernel_rfl) (fun _ _ _ h => by cases h.1) _ (by kernel_rfl) (by kernel_rfl) (Or.inl ⟨by rfl, ?_⟩) SA.out ?_
    ·rintro w' ⟨z0, z1⟩
     go_simp
    simp only [aP, sT, sZ, sS]
    refine zd (i := 2) (v := O ι i) rfl (by kernel_rfl) (by kernel_rfl) (fun _ _ _ h => by cases h.1) _ (by kernel_rfl) (by kernel_rfl) (Or.inl ⟨by rfl, ?_⟩) SA.out ?_
    ·rintro w' ⟨z0, z1⟩
     go_simp
    simp only [aP, sT, sZ, sS]
    refine zd (i := 3) (v := π (some ⟨w.heap.size, 0, none⟩)) rfl (by kernel_rfl) (by kernel_rfl) (fun _ _ _ h => by cases h.1) _ (by kernel_rfl) (by kernel_rfl) (Or.inl ⟨by rfl, ?_⟩) SA.out ?_
    ·rintro w' ⟨z0, z1⟩
     go_simp
    simp only [aP, sT, sZ, sS]
    refine zd (i := 4) (v := σ (some ⟨g, 0, none⟩) L2.length cap) rfl (by kernel_rfl) (by kernel_rfl) (fun _ _ _ h => by cases h.1) _ (by kernel_rfl) (by kernel_rfl) (Or.inl ⟨by rfl, ?_⟩) SA.out ?_
    ·rintro w' ⟨z0, z1⟩
     go_simp
    simp only [aP, sT, sZ, sS]
    refine zd (i := 5) (v := O ι i) rfl (by kernel_rfl) (by kernel_rfl) (fun _ _ _ h => by cases h.1) _ (by kernel_rfl) (by kernel_rfl) (Or.inl ⟨by rfl, ?_⟩) SA.out ?_
    ·rintro w' ⟨z0, z1⟩
     go_simp
    simp only [aP, sT, sZ, sS]
    refine zd (i := 6) (v := π (some ⟨g, i * 2, none⟩)) rfl (by kernel_rfl) (by kernel_rfl) (fun _ _ _ h => by cases h.1) _ (by kernel_rfl) (by kernel_rfl) (Or.inl ⟨by rfl, ?_⟩) SA.out ?_
    ·rintro w' ⟨z0, z1⟩
     go_simp
    simp only [aP, sT, sZ, sS]
    refine zd (i := 7) (v := π (some ⟨g, i * 2 + 1, none⟩)) rfl (by kernel_rfl) (by kernel_rfl) (fun _ _ _ h => by cases h.1) _ (by kernel_rfl) (by kernel_rfl) (Or.inl ⟨by rfl, ?_⟩) SA.out ?_
    ·rintro w' ⟨z0, z1⟩
     go_simp
    simp only [aP, sT, sZ, sS]
    refine zd (i := 8) (v := σ sa2 cs2.length ca2) rfl (by kernel_rfl) (by kernel_rfl) (fun _ _ _ h => by cases h.1) _ (by kernel_rfl) (by kernel_rfl) (Or.inl ⟨by rfl, ?_⟩) SA.out ?_
    ·rintro w' ⟨z0, z1⟩
     go_simp
    simp only [aP, sT, sZ, sS]
    refine zd (i := 9) (v := γ #[O ι 0, .float .f64 0, .float .f64 0]) rfl (by kernel_rfl) (by kernel_rfl) (fun _ _ _ h => by cases h.1) _ (by kernel_rfl) (by kernel_rfl) (Or.inl ⟨by rfl, ?_⟩) SA.out ?_
    ·rintro w' ⟨z0, z1⟩
     go_simp
    simp only [aP, sT, sZ, sS]
    refine ze (i := 10) (by kernel_rfl) rfl (fun K hK => ?_)
    go_simp
    have HF2 := hide (HF.out.drew.alloc (χ #[O ι 0, .float .f64 0, .float .f64 0] 47))
    obtain ⟨_, _, hgg, _, p1, _, _, _⟩ := HF2.out.dh.at HT2.out
    simp only [Value.slice.injEq, Option.some.injEq, Addr.mk.injEq, and_true, true_and] at hgg
    obtain ⟨rfl, rfl⟩ := hgg
    have S1 : Hid ((fun w' : World => w'.cell? ⟨w.heap.size, 0, none⟩ = some (σ (some ⟨g, 0, none⟩) L2.length cap) ∧ w'.cell? ⟨g, i * 2 + 1, none⟩ = some (σ sa2 cs2.length ca2)) (wr.drew.alloc (χ #[O ι 0, .float .f64 0, .float .f64 0] 47))) := ⟨HF2.out.b2.cell 0 rfl, p1⟩
    refine hK.out _ _ (fun _ => S1.out) ?_
    clear hK K
    try simp only [aP, sT, sZ, sS]
    clear p1
    have HNW : Hid (∀ q u, (c3v (0, 0, 0))[q]? = some u → (wr.drew.alloc (χ #[O ι 0, .float .f64 0, .float .f64 0] 47)).cell? ((⟨wr.drew.heap.size, 0, none⟩ : Addr).add q) = some u) := fun q u hq => by
     rw [Addr.add_lit, Nat.zero_add, zg wr.drew _ 47 _ rfl q]
     simpa [c3v] using hq
    have hHr : H ≤ wr.heap.size := by have := HF.out.sf.sz; omega
    have OW1 := hide (HF2.out.dh.cel i _ HT2.out)
    refine ze (i := 11) (by kernel_rfl) rfl (fun K hK => ?_)
    refine step_append_lies _ (by rfl) (.tmp 117) (.tmp 119) 39 (by rfl) H 47 i6 (γ #[O ι 0, .float .f64 0, .float .f64 0]) 3 24 Tryz.underlying39 hi6 hx0 hx1 hx2 rfl (by decide) (σ sa2 cs2.length ca2) cs2.length (flat cs2) (by rfl) OW1.out ⟨wr.drew.heap.size, 0, none⟩ 1 1 (c3v (0, 0, 0)) (by rfl) (by rfl) HNW.out (zp3 _) (by omega) (by unfold maxLen; omega) (by omega) (by simp; omega) (wr.drew.heap.size + 1) (by simp) ?_
    intro g5 cap5 w5 hown5 hgrow5 hat5 hlt5
    have HEND : Hid (SP w (w5.setCell ⟨g, i * 2 + 1, none⟩ (σ (some ⟨g5, 0, none⟩) (cs2.length + 1) cap5)) H b _ _) := HF2.out.grow HT2.out (c := (0, 0, 0)) ⟨by show I64 0; unfold I64; omega, by show B64 0; unfold B64; omega, by show B64 0; unfold B64; omega⟩ (by show cs2.length < 5000; omega) hown5 hgrow5 (fun k e => by
     simp only [Value.ownBlock, Option.some.injEq] at e
     subst e
     rcases hat5 with q | q
     ·exact Or.inl q
     ·refine Or.inr ?_
      rw [q]; simp)
    have c45 := (HF2.out.b2.gb hgrow5 (HF2.out.b2.ne OW1.out (by decide))).cell 0 rfl
    have ow5 : w5.ownsRow H 41 2 (σ (some ⟨g, 0, none⟩) L2.length cap) L2.length (flatD L2) := HF2.out.dh.own.kept hgrow5 (zg1 HF2.out.dh.own OW1.out (by decide))
    have hfd := zz3 L2 i _ HT2.out
    have c15 := (ow5.cellAt (i * 2 + 1) (by omega)).trans hfd.2
    have f15 := ow5.frozenAt (i * 2 + 1)
    have HLN : Hid (lenAt (w5.setCell ⟨g, i * 2 + 1, none⟩ (σ (some ⟨g5, 0, none⟩) (cs2.length + 1) cap5)) g (i * 2 + 1) = cs2.length + 1) := zg4 (World.cell?_setCell_same _ _ _ c15)
    have HL0 : Hid (lenAt wr g (i * 2 + 1) = cs2.length) := zg4 q1
    have S2 : Hid ((fun w' : World => w'.cell? ⟨w.heap.size, 0, none⟩ = some (σ (some ⟨g, 0, none⟩) L2.length cap) ∧ w'.cell? ⟨g, i * 2 + 1, none⟩ = some (σ sa2 cs2.length ca2)) w5) := ⟨c45, c15⟩
    refine hK.out _ _ (fun _ => S2.out) ?_
    clear hK K
    try simp only [aP, sT, sZ, sS]
    clear hown5 hgrow5 hat5 hlt5 ow5 hfd
    refine ze (i := 12) (by kernel_rfl) rfl (fun K hK => ?_)
    go_simp
    refine hK.out _ _ (fun _ => S2.out) ?_
    clear hK K
    try simp only [aP, sT, sZ, sS]
    refine ze (i := 13) (by kernel_rfl) rfl (fun K hK => ?_)
    go_simp
    refine hK.out _ _ (fun _ => S2.out) ?_
    clear hK K
    try simp only [aP, sT, sZ, sS]
    refine ze (i := 14) (by kernel_rfl) rfl (fun K hK => ?_)
    go_simp
    refine hK.out _ _ (fun h => absurd h (by decide)) ?_
    clear hK K
    try simp only [aP, sT, sZ, sS]
    refine zm (by kernel_rfl) ?_ _
    refine ⟨rfl, ?_⟩
    clear SA S1 S2 HNW
    go_wp2_with fail
    go_roundw
    ·exact ⟨_, by simp [HLL.out], HEND.out⟩
    ·rw [HLN.out, HL0.out]; omega
   ·have hlt2 : decide ((cs2.length : Int) < 4096 + z) = false := decide_eq_false hlt
    have bb2 := HF.out.b2.cell 0 rfl
    have bb4 := HF.out.b4.cell 0 rfl
    have bbf := HF.out.b4.fz 0
    go_wp2
    exact bodyPost_ret (v := γ #[σ (some ⟨g, 0, none⟩) L2.length cap]) (by simp [results, Tryz.results81, go_sem, bb4]) rfl HF.out.fin
 ·have F3 := hide (F2.out.setDt HT.out 1)
  have bb2 := F3.out.b2.cell 0 rfl
  have bb4 := F3.out.b4.cell 0 rfl
  have bbf := F3.out.b4.fz 0
  go_wp2
  exact bodyPost_ret (v := γ #[σ (some ⟨g, 0, none⟩) L.length cap]) (by simp [results, Tryz.results81, go_sem, bb4]) rfl F3.out.fin
structure KX (H b : Nat) (vA vB : Value) (w W : World) : Prop where
 os : W.os = w.os
 tape : W.tape = w.tape
 output : W.output = w.output
 size : w.heap.size ≤ W.heap.size
 blk : ∀ k, k < w.heap.size → k ≠ b → vA.ownBlock ≠ some k → vB.ownBlock ≠ some k → (k < H ∨ NK w k) → W.heap[k]? = w.heap[k]?
theorem KX.refl (H b : Nat) (vA vB : Value) (w : World) : KX H b vA vB w w := ⟨rfl, rfl, rfl, Nat.le_refl _, fun _ _ _ _ _ _ => rfl⟩
theorem KX.kf {H b : Nat} {vA vB : Value} {u w W : World} (h : KX H b vA vB u w) (k : KF H b w W) : KX H b vA vB u W :=
 ⟨k.os.trans h.os, k.tape.trans h.tape, k.output.trans h.output, Nat.le_trans h.size k.size, fun j hj hb ha hc hk => by
  have h1 := h.blk j hj hb ha hc hk
  refine (k.blk j (Nat.lt_of_lt_of_le hj h.size) hb ?_).trans h1
  exact hk.imp id fun q c t f e => q c t f (h1 ▸ e)⟩
theorem KX.new {H b : Nat} {vA vB : Value} {u w W : World} {row : Option Nat} (h : KX H b vA vB u w) (x : w.grownBy W row) (hr : ∀ k, row = some k → u.heap.size ≤ k ∨ vA.ownBlock = some k ∨ vB.ownBlock = some k) : KX H b vA vB u W :=
 ⟨x.os.trans h.os, x.tape.trans h.tape, x.output.trans h.output, Nat.le_trans h.size x.size, fun j hj hb ha hc hk => (x.block j (Nat.lt_of_lt_of_le hj h.size) (fun e => by
  rcases hr j e.symm with q | q | q
  ·omega
  ·exact ha q
  ·exact hc q)).trans (h.blk j hj hb ha hc hk)⟩
structure NG (w W : World) (H b : Nat) (sv : Value) (L : List Dst) (st : Int) (vA vB : Value) (xs ss : List Int) (off : Int) : Prop where
 sx : SX W H b
 hH : H ≤ w.heap.size
 kx : KX H b vA vB w W
 dh : DH W H sv L
 dg : DG L
 dv : DV W H vA vB xs ss
 lx : xs.length ≤ 4
 ls : ss.length ≤ 4
 b3 : Bx W w.heap.size 25 [sv]
 b4 : Bx W (w.heap.size + 1) 30 [O ι st, vA, vB, O ι off]
 b6 : Bx W (w.heap.size + 2) 25 [σ none 0 0]
 b7 : Bx W (w.heap.size + 3) 30 [O ι 0, σ none 0 0, σ none 0 0, O ι 0]
section
variable {w W W' : World} {H b : Nat} {sv : Value} {L : List Dst} {st : Int} {vA vB : Value} {xs ss : List Int} {off : Int}
theorem NG.sf (h : NG w W H b sv L st vA vB xs ss off) : SF W W H b := SF.start h.sx (Nat.le_trans h.hH h.kx.size)
theorem NG.mut (h : NG w W H b sv L st vA vB xs ss off) (s : SX W' H b) (m : Mut b W W') : NG w W' H b sv L st vA vB xs ss off := by
 have h1 := h.sx.hb
 have h2 := h.hH
 exact ⟨s, h.hH, h.kx.kf (KF.mut m), h.dh.mut m h1, h.dg, h.dv.mut m h1, h.lx, h.ls, h.b3.mut m (by omega), h.b4.mut m (by omega), h.b6.mut m (by omega), h.b7.mut m (by omega)⟩
theorem NG.drew (h : NG w W H b sv L st vA vB xs ss off) : NG w W.drew H b sv L st vA vB xs ss off :=
 ⟨h.sx.keep fun _ _ => rfl, h.hH, ⟨h.kx.os, h.kx.tape, h.kx.output, h.kx.size, h.kx.blk⟩, h.dh.drew, h.dg, ⟨h.dv.a, h.dv.c, h.dv.dj⟩, h.lx, h.ls, h.b3, h.b4, h.b6, h.b7⟩
theorem SX.set {W : World} {H b k : Nat} (h : SX W H b) (hk : H ≤ k) (o : Nat) (u : Value) : SX (W.setCell ⟨k, o, none⟩ u) H b := h.keep fun j hj => Below.heap_setCell _ _ _ _ (show j ≠ k by omega)
theorem NG.st0 (h : NG w W H b sv L st vA vB xs ss off) (s2 : Int) : NG w (W.setCell ⟨w.heap.size + 1, 0, none⟩ (O ι s2)) H b sv L s2 vA vB xs ss off := by
 have h2 := h.hH
 have q : ∀ {v : Value} {n : Nat} {l : List Value}, W.ownsRow H 2 1 v n l → (W.setCell ⟨w.heap.size + 1, 0, none⟩ (O ι s2)).ownsRow H 2 1 v n l := fun {v n l} r => zu r (Ne.symm (h.b4.ne r (by decide)))
 exact ⟨h.sx.set (by omega) _ _, h.hH, h.kx.new (zh1 _ _ _ _) (fun k e => by injection e with e; omega), h.dh.box h.b4 (by decide) (by decide), h.dg, ⟨q h.dv.a, q h.dv.c, h.dv.dj⟩, h.lx, h.ls, h.b3.far (by omega) _, by simpa using h.b4.set 0 (O ι s2), h.b6.far (by omega) _, h.b7.far (by omega) _⟩
theorem NG.off0 (h : NG w W H b sv L st vA vB xs ss off) (o2 : Int) : NG w (W.setCell ⟨w.heap.size + 1, 3, none⟩ (O ι o2)) H b sv L st vA vB xs ss o2 := by
 have h2 := h.hH
 have q : ∀ {v : Value} {n : Nat} {l : List Value}, W.ownsRow H 2 1 v n l → (W.setCell ⟨w.heap.size + 1, 3, none⟩ (O ι o2)).ownsRow H 2 1 v n l := fun {v n l} r => zu r (Ne.symm (h.b4.ne r (by decide)))
 exact ⟨h.sx.set (by omega) _ _, h.hH, h.kx.new (zh1 _ _ _ _) (fun k e => by injection e with e; omega), h.dh.box h.b4 (by decide) (by decide), h.dg, ⟨q h.dv.a, q h.dv.c, h.dv.dj⟩, h.lx, h.ls, h.b3.far (by omega) _, by simpa using h.b4.set 3 (O ι o2), h.b6.far (by omega) _, h.b7.far (by omega) _⟩
theorem NG.str0 {g cB j : Nat} (h : NG w W H b sv L st vA (σ (some ⟨g, 0, none⟩) ss.length cB) xs ss off) (x : Int) : NG w (W.setCell ⟨g, j, none⟩ (O ι x)) H b sv L st vA (σ (some ⟨g, 0, none⟩) ss.length cB) xs (ss.set j x) off := by
 have h2 := h.hH
 have hs := h.dv.c.stored j (O ι x)
 have hg := (h.dv.c.lt g rfl).1
 refine ⟨h.sx.set hg _ _, h.hH, h.kx.new hs.2 (fun k e => Or.inr (Or.inr e)), h.dh.keepK (v := σ (some ⟨g, 0, none⟩) ss.length cB) h.dv.c (by decide) (by decide) hs.2, h.dg, ⟨h.dv.a.kept hs.2 h.dv.dj, ?_, h.dv.dj⟩, h.lx, by simpa using h.ls, h.b3.gb hs.2 (h.b3.ne h.dv.c (by decide)), h.b4.gb hs.2 (h.b4.ne h.dv.c (by decide)), h.b6.gb hs.2 (h.b6.ne h.dv.c (by decide)), h.b7.gb hs.2 (h.b7.ne h.dv.c (by decide))⟩
 rw [List.length_set, List.map_set]
 exact hs.1
theorem NG.shp0 {g cA j : Nat} (h : NG w W H b sv L st (σ (some ⟨g, 0, none⟩) xs.length cA) vB xs ss off) (x : Int) : NG w (W.setCell ⟨g, j, none⟩ (O ι x)) H b sv L st (σ (some ⟨g, 0, none⟩) xs.length cA) vB (xs.set j x) ss off := by
 have h2 := h.hH
 have hs := h.dv.a.stored j (O ι x)
 have hg := (h.dv.a.lt g rfl).1
 have hdj : vB.ownBlock = none ∨ vB.ownBlock ≠ some g := by
  by_cases e : vB.ownBlock = none
  ·exact Or.inl e
  ·rcases h.dv.dj with q | q
   ·cases q
   ·exact Or.inr (Ne.symm q)
 refine ⟨h.sx.set hg _ _, h.hH, h.kx.new hs.2 (fun k e => Or.inr (Or.inl e)), h.dh.keepK (v := σ (some ⟨g, 0, none⟩) xs.length cA) h.dv.a (by decide) (by decide) hs.2, h.dg, ⟨?_, h.dv.c.kept hs.2 hdj, h.dv.dj⟩, by simpa using h.lx, h.ls, h.b3.gb hs.2 (h.b3.ne h.dv.a (by decide)), h.b4.gb hs.2 (h.b4.ne h.dv.a (by decide)), h.b6.gb hs.2 (h.b6.ne h.dv.a (by decide)), h.b7.gb hs.2 (h.b7.ne h.dv.a (by decide))⟩
 rw [List.length_set, List.map_set]
 exact hs.1
theorem KX.set5 {H b : Nat} {vA vB : Value} {w W : World} (h : KX H b vA vB w W) {k1 k2 : Nat} (h1 : w.heap.size ≤ k1) (h2 : w.heap.size ≤ k2) (u0 u1 u2 u3 u4 : Value) (o0 o1 o2 o3 o4 : Nat) :
  KX H b vA vB w (((((W.setCell ⟨k1, o0, none⟩ u0).setCell ⟨k2, o1, none⟩ u1).setCell ⟨k2, o2, none⟩ u2).setCell ⟨k2, o3, none⟩ u3).setCell ⟨k2, o4, none⟩ u4) := by
 have n1 : ∀ j, (some k1 : Option Nat) = some j → w.heap.size ≤ j ∨ vA.ownBlock = some j ∨ vB.ownBlock = some j := fun j e => by injection e with e; omega
 have n2 : ∀ j, (some k2 : Option Nat) = some j → w.heap.size ≤ j ∨ vA.ownBlock = some j ∨ vB.ownBlock = some j := fun j e => by injection e with e; omega
 have a1 := h.new (zh1 W k1 o0 u0) n1
 have a2 := a1.new (zh1 _ k2 o1 u1) n2
 have a3 := a2.new (zh1 _ k2 o2 u2) n2
 have a4 := a3.new (zh1 _ k2 o3 u3) n2
 have a5 := a4.new (zh1 _ k2 o4 u4) n2
 exact a5
theorem KX.drew {H b : Nat} {vA vB : Value} {w W : World} (h : KX H b vA vB w W) : KX H b vA vB w W.drew := ⟨h.os, h.tape, h.output, h.size, h.blk⟩
theorem SX.drew {W : World} {H b : Nat} (h : SX W H b) : SX W.drew H b := h.keep fun _ _ => rfl
theorem SX.set5 {W : World} {H b : Nat} (h : SX W H b) {k1 k2 : Nat} (h1 : H ≤ k1) (h2 : H ≤ k2) (u0 u1 u2 u3 u4 : Value) (o0 o1 o2 o3 o4 : Nat) :
  SX (((((W.setCell ⟨k1, o0, none⟩ u0).setCell ⟨k2, o1, none⟩ u1).setCell ⟨k2, o2, none⟩ u2).setCell ⟨k2, o3, none⟩ u3).setCell ⟨k2, o4, none⟩ u4) H b := by
 have a1 := h.set h1 o0 u0
 have a2 := a1.set h2 o1 u1
 have a3 := a2.set h2 o2 u2
 have a4 := a3.set h2 o3 u3
 have a5 := a4.set h2 o4 u4
 exact a5
theorem zs2 {W : World} {lo e sz : Nat} {v : Value} {m : Nat} {l : List Value} (r : W.ownsRow lo e sz v m l) {k1 k2 : Nat} (h1 : v.ownBlock ≠ some k1) (h2 : v.ownBlock ≠ some k2) (u0 u1 u2 u3 u4 : Value) (o0 o1 o2 o3 o4 : Nat) :
  (((((W.setCell ⟨k1, o0, none⟩ u0).setCell ⟨k2, o1, none⟩ u1).setCell ⟨k2, o2, none⟩ u2).setCell ⟨k2, o3, none⟩ u3).setCell ⟨k2, o4, none⟩ u4).ownsRow lo e sz v m l := by
 have a1 := zu (o := o0) (u := u0) r h1
 have a2 := zu (o := o1) (u := u1) a1 h2
 have a3 := zu (o := o2) (u := u2) a2 h2
 have a4 := zu (o := o3) (u := u3) a3 h2
 have a5 := zu (o := o4) (u := u4) a4 h2
 exact a5
theorem DH.set5 {W : World} {H : Nat} {sv : Value} {L : List Dst} (h : DH W H sv L) {k1 k2 : Nat} {t1 t2 : TypeId} {v1 v2 : List Value} (h1 : Bx W k1 t1 v1) (h2 : Bx W k2 t2 v2) (a1 : t1 ≠ 41) (a2 : t1 ≠ 47) (a3 : t2 ≠ 41) (a4 : t2 ≠ 47) (u0 u1 u2 u3 u4 : Value) (o0 o1 o2 o3 o4 : Nat) :
  DH (((((W.setCell ⟨k1, o0, none⟩ u0).setCell ⟨k2, o1, none⟩ u1).setCell ⟨k2, o2, none⟩ u2).setCell ⟨k2, o3, none⟩ u3).setCell ⟨k2, o4, none⟩ u4) H sv L :=
 ⟨zs2 h.own (Ne.symm (h1.ne h.own a1)) (Ne.symm (h2.ne h.own a3)) _ _ _ _ _ _ _ _ _ _, fun i t ht => zs2 (h.cel i t ht) (Ne.symm (h1.ne (h.cel i t ht) a2)) (Ne.symm (h2.ne (h.cel i t ht) a4)) _ _ _ _ _ _ _ _ _ _, h.dj⟩
def NudgeOk (w : World) (H b : Nat) (vA vB : Value) (e : Ending) (W : World) : Prop := ∃ (sv : Value) (L : List Dst) (st : Int) (xs ss : List Int) (off : Int), e = .returned (.tuple #[γ #[sv], γ #[O ι st, vA, vB, O ι off]]) ∧ DH W H sv L ∧ DG L ∧ DV W H vA vB xs ss ∧ xs.length ≤ 4 ∧ ss.length ≤ 4 ∧ SX W H b ∧ KX H b vA vB w W
theorem NG.fin (h : NG w W H b sv L st vA vB xs ss off) (sv2 : Value) {L2 : List Dst} (hd2 : DH W H sv2 L2) (hg2 : DG L2) : NudgeOk w H b vA vB (.returned (.tuple #[γ #[sv2], γ #[O ι st, vA, vB, O ι off]]))
  (((((W.setCell ⟨w.heap.size + 2, 0, none⟩ sv2).setCell ⟨w.heap.size + 3, 0, none⟩ (O ι st)).setCell ⟨w.heap.size + 3, 1, none⟩ vA).setCell ⟨w.heap.size + 3, 2, none⟩ vB).setCell ⟨w.heap.size + 3, 3, none⟩ (O ι off)) := by
 have h2 := h.hH
 have r1 := zs2 h.dv.a (Ne.symm (h.b6.ne h.dv.a (by decide))) (Ne.symm (h.b7.ne h.dv.a (by decide))) sv2 (O ι st) vA vB (O ι off) 0 0 1 2 3
 have r2 := zs2 h.dv.c (Ne.symm (h.b6.ne h.dv.c (by decide))) (Ne.symm (h.b7.ne h.dv.c (by decide))) sv2 (O ι st) vA vB (O ι off) 0 0 1 2 3
 have r3 := hd2.set5 h.b6 h.b7 (by decide) (by decide) (by decide) (by decide) sv2 (O ι st) vA vB (O ι off) 0 0 1 2 3
 have r4 := h.sx.set5 (k1 := w.heap.size + 2) (k2 := w.heap.size + 3) (by omega) (by omega) sv2 (O ι st) vA vB (O ι off) 0 0 1 2 3
 have r5 := h.kx.set5 (k1 := w.heap.size + 2) (k2 := w.heap.size + 3) (by omega) (by omega) sv2 (O ι st) vA vB (O ι off) 0 0 1 2 3
 exact ⟨sv2, L2, st, xs, ss, off, rfl, r3, hg2, ⟨r1, r2, h.dv.dj⟩, h.lx, h.ls, r4, r5⟩
theorem NudgeOk.drew {e : Ending} (h : NudgeOk w H b vA vB e W) : NudgeOk w H b vA vB e W.drew := by
 obtain ⟨sv, L, st, xs, ss, off, h1, h2, h3, h4, h5, h6, h7, h8⟩ := h
 exact ⟨sv, L, st, xs, ss, off, h1, h2.drew, h3, ⟨h4.a.drew, h4.c.drew, h4.dj⟩, h5, h6, h7.drew, h8.drew⟩
end
theorem zp15 {w : World} {H b : Nat} (hs : SF w w H b) {sv : Value} (hD : DH w H sv []) :
  Calls Tryz.prog 81 #[γ #[sv], π (some ⟨b, 0, none⟩)] w fun e W => SpoilOk w H b e W := by
 obtain ⟨sa, cap, rfl⟩ := hD.form
 have H1 := hide hD
 have H2 := hide hs
 clear hs hD
 go_enter Tryz.func81, Tryz.ntmps81
 go_wp2
 exact bodyPost_ret (v := γ #[σ sa 0 cap]) (by simp [results, Tryz.results81, go_sem]) rfl ⟨_, [], rfl, (H1.out.alloc _).alloc _, DG.nil, (H2.out.alloc _).alloc _⟩
theorem zr15 {w : World} {H b : Nat} (hs : SF w w H b) {sv : Value} {L : List Dst} (hD : DH w H sv L) (hG : DG L) :
  Calls Tryz.prog 81 #[γ #[sv], π (some ⟨b, 0, none⟩)] w fun e W => SpoilOk w H b e W := by
 by_cases hp : 0 < L.length
 ·exact zq15 hs hD hG hp
 ·obtain rfl : L = [] := List.length_eq_zero_iff.1 (by omega)
  exact zp15 hs hD
theorem zq10 {w : World} {H b : Nat} (hs : SX w H b) (hHw : H ≤ w.heap.size) {sv : Value} {L : List Dst} (hD : DH w H sv L) (hG : DG L) {st off : Int} {sA zp23 : Option Addr} {cA cB : Nat} {xs ss : List Int} (hV : DV w H (σ sA xs.length cA) (σ zp23 ss.length cB) xs ss) (lx : xs.length ≤ 4) (ls : ss.length ≤ 4) :
  Calls Tryz.prog 54 #[γ #[sv], γ #[O ι st, σ sA xs.length cA, σ zp23 ss.length cB, O ι off], π (some ⟨b, 0, none⟩)] w fun e W => NudgeOk w H b (σ sA xs.length cA) (σ zp23 ss.length cB) e W := by
 have hbH := hs.hb
 obtain ⟨g, cap, rfl⟩ := hD.form
 have hL70 := hG.cnt
 have x4 : Bel w ((((w.alloc (χ #[σ g L.length cap] 25)).alloc (χ #[O ι st, σ sA xs.length cA, σ zp23 ss.length cB, O ι off] 30)).alloc (χ #[σ none 0 0] 25)).alloc (χ #[O ι 0, σ none 0 0, σ none 0 0, O ι 0] 30)) := (((((Ext.refl w).alloc _ _).alloc _ _).alloc _ _).alloc _ _).bl
 have F0 : Hid (NG w ((((w.alloc (χ #[σ g L.length cap] 25)).alloc (χ #[O ι st, σ sA xs.length cA, σ zp23 ss.length cB, O ι off] 30)).alloc (χ #[σ none 0 0] 25)).alloc (χ #[O ι 0, σ none 0 0, σ none 0 0, O ι 0] 30)) H b (σ g L.length cap) L st (σ sA xs.length cA) (σ zp23 ss.length cB) xs ss off) :=
  ⟨hs.keep fun k hk => Below.block x4 k (by omega), hHw, (KX.refl _ _ _ _ _).kf (KF.bel x4), hD.bel x4, hG, hV.bel x4, lx, ls, (((Bx.new w 25 #[σ g L.length cap] _ rfl).alloc _).alloc _).alloc _, ((Bx.new (w.alloc (χ #[σ g L.length cap] 25)) 30 #[O ι st, σ sA xs.length cA, σ zp23 ss.length cB, O ι off] _ (by simp)).alloc _).alloc _, (Bx.new ((w.alloc (χ #[σ g L.length cap] 25)).alloc (χ #[O ι st, σ sA xs.length cA, σ zp23 ss.length cB, O ι off] 30)) 25 #[σ none 0 0] _ (by simp)).alloc _, Bx.new (((w.alloc (χ #[σ g L.length cap] 25)).alloc (χ #[O ι st, σ sA xs.length cA, σ zp23 ss.length cB, O ι off] 30)).alloc (χ #[σ none 0 0] 25)) 30 #[O ι 0, σ none 0 0, σ none 0 0, O ι 0] _ (by simp)⟩
 clear hs hD hG hV x4
 go_enter Tryz.func54, Tryz.ntmps54
 go_wp2_with fail
 generalize (((w.alloc (χ #[σ g L.length cap] 25)).alloc (χ #[O ι st, σ sA xs.length cA, σ zp23 ss.length cB, O ι off] 30)).alloc (χ #[σ none 0 0] 25)).alloc (χ #[O ι 0, σ none 0 0, σ none 0 0, O ι 0] 30) = W0 at F0 ⊢
 refine (F0.out.sf.next 40).mono ?_
 rintro e W1 ⟨kv, rfl, ⟨hk0, hk1, _⟩, s1, m1⟩
 have F1 := hide (F0.out.mut s1.src m1)
 clear s1 m1 F0 hk1
 have b3 := F1.out.b3.cell 0 rfl
 have b40 := F1.out.b4.cell 0 rfl
 have b41 := F1.out.b4.cell 1 rfl
 have b42 := F1.out.b4.cell 2 rfl
 have b43 := F1.out.b4.cell 3 rfl
 have b4f := fun o => F1.out.b4.fz o
 rcases Classical.em (kv = 0) with hq | hq
 ·subst hq
  go_wp2_with fail
  have SA : Hid ((fun w' : World => w'.cell? ⟨w.heap.size, 0, none⟩ = some (σ g L.length cap) ∧ w'.cell? ⟨w.heap.size + 1, 0, none⟩ = some (O ι st) ∧ w'.cell? ⟨w.heap.size + 1, 1, none⟩ = some (σ sA xs.length cA) ∧ w'.cell? ⟨w.heap.size + 1, 2, none⟩ = some (σ zp23 ss.length cB) ∧ w'.cell? ⟨w.heap.size + 1, 3, none⟩ = some (O ι off)) W1.drew) := ⟨b3, b40, b41, b42, b43⟩
  refine zv (S := (fun w' : World => w'.cell? ⟨w.heap.size, 0, none⟩ = some (σ g L.length cap) ∧ w'.cell? ⟨w.heap.size + 1, 0, none⟩ = some (O ι st) ∧ w'.cell? ⟨w.heap.size + 1, 1, none⟩ = some (σ sA xs.length cA) ∧ w'.cell? ⟨w.heap.size + 1, 2, none⟩ = some (σ zp23 ss.length cB) ∧ w'.cell? ⟨w.heap.size + 1, 3, none⟩ = some (O ι off))) (late := [5]) (by kernel_rfl) ?_
  refine zd (i := 0) (v := γ #[σ g L.length cap]) rfl (by kernel_rfl) (by kernel_rfl) (fun _ _ _ h => by cases h.1) _ (by kernel_rfl) (by kernel_rfl) (Or.inl ⟨by rfl, ?_⟩) SA.out ?_
  ·rintro w' ⟨z0, z1, z2, z3, z4⟩
   go_simp
  simp only [aP, sT, sZ, sS]
  refine zd (i := 1) (v := π (some ⟨b, 0, none⟩)) rfl (by kernel_rfl) (by kernel_rfl) (fun _ _ _ h => by cases h.1) _ (by kernel_rfl) (by kernel_rfl) (Or.inl ⟨by rfl, ?_⟩) SA.out ?_
  ·rintro w' ⟨z0, z1, z2, z3, z4⟩
   go_simp
  simp only [aP, sT, sZ, sS]
  refine zd (i := 3) (v := γ #[O ι st, σ sA xs.length cA, σ zp23 ss.length cB, O ι off]) rfl (by kernel_rfl) (by kernel_rfl) (fun _ _ _ h => by cases h.1) _ (by kernel_rfl) (by kernel_rfl) (Or.inl ⟨by rfl, ?_⟩) SA.out ?_
  ·rintro w' ⟨z0, z1, z2, z3, z4⟩
   go_simp
  simp only [aP, sT, sZ, sS]
  refine ze (i := 2) (by kernel_rfl) rfl (fun K hK => ?_)
  go_simp
  refine (zr15 (SF.start (F1.out.drew.sx) (Nat.le_trans F1.out.hH F1.out.kx.size)) F1.out.dh.drew F1.out.dg).mono ?_
  rintro e t1 ⟨sv2, L2, rfl, hd2, hg2, s2⟩
  have hH1 := F1.out.hH
  have F2 : Hid (Bx t1 w.heap.size 25 [σ g L.length cap] ∧ True) := ⟨(F1.out.b3.drew).kf s2.kf (by omega) (by decide) (by decide), trivial⟩
  have c4 : Bx t1 (w.heap.size + 1) 30 [O ι st, σ sA xs.length cA, σ zp23 ss.length cB, O ι off] := (F1.out.b4.drew).kf s2.kf (by omega) (by decide) (by decide)
  have c6 : Bx t1 (w.heap.size + 2) 25 [σ none 0 0] := (F1.out.b6.drew).kf s2.kf (by omega) (by decide) (by decide)
  have c7 : Bx t1 (w.heap.size + 3) 30 [O ι 0, σ none 0 0, σ none 0 0, O ι 0] := (F1.out.b7.drew).kf s2.kf (by omega) (by decide) (by decide)
  have NG2 : Hid (∃ sv3 L3, NG w t1 H b sv3 L3 st (σ sA xs.length cA) (σ zp23 ss.length cB) xs ss off ∨ True) := ⟨sv2, L2, Or.inr trivial⟩
  have C4 := hide c4
  have C6 := hide c6
  have C7 := hide c7
  have HD2 := hide hd2
  have HG2 := hide hg2
  have HS2 := hide s2
  have S1 : Hid ((fun w' : World => w'.cell? ⟨w.heap.size, 0, none⟩ = some (σ g L.length cap) ∧ w'.cell? ⟨w.heap.size + 1, 0, none⟩ = some (O ι st) ∧ w'.cell? ⟨w.heap.size + 1, 1, none⟩ = some (σ sA xs.length cA) ∧ w'.cell? ⟨w.heap.size + 1, 2, none⟩ = some (σ zp23 ss.length cB) ∧ w'.cell? ⟨w.heap.size + 1, 3, none⟩ = some (O ι off)) t1) := ⟨F2.out.1.cell 0 rfl, C4.out.cell 0 rfl, C4.out.cell 1 rfl, C4.out.cell 2 rfl, C4.out.cell 3 rfl⟩
  refine hK.out _ _ (fun _ => S1.out) ?_
  clear hK K
  try simp only [aP, sT, sZ, sS]
  clear hd2 hg2 s2 c4 c6 c7
  obtain ⟨sq, cq, rfl⟩ := HD2.out.form
  have d6 := C6.out.cell 0 rfl
  have d6f := C6.out.fz 0
  refine ze (i := 4) (by kernel_rfl) rfl (fun K hK => ?_)
  go_simp
  have g3 := F2.out.1.far (j := w.heap.size + 2) (o := 0) (by omega) (σ sq L2.length cq)
  have g4 := C4.out.far (j := w.heap.size + 2) (o := 0) (by omega) (σ sq L2.length cq)
  have G3 := hide g3
  have G4 := hide g4
  have S2 : Hid ((fun w' : World => w'.cell? ⟨w.heap.size, 0, none⟩ = some (σ g L.length cap) ∧ w'.cell? ⟨w.heap.size + 1, 0, none⟩ = some (O ι st) ∧ w'.cell? ⟨w.heap.size + 1, 1, none⟩ = some (σ sA xs.length cA) ∧ w'.cell? ⟨w.heap.size + 1, 2, none⟩ = some (σ zp23 ss.length cB) ∧ w'.cell? ⟨w.heap.size + 1, 3, none⟩ = some (O ι off)) (t1.setCell ⟨w.heap.size + 2, 0, none⟩ (σ sq L2.length cq))) := ⟨G3.out.cell 0 rfl, G4.out.cell 0 rfl, G4.out.cell 1 rfl, G4.out.cell 2 rfl, G4.out.cell 3 rfl⟩
  refine hK.out _ _ (fun _ => S2.out) ?_
  clear hK K
  try simp only [aP, sT, sZ, sS]
  clear g3 g4
  have d70 := C7.out.cell 0 rfl
  have d71 := C7.out.cell 1 rfl
  have d72 := C7.out.cell 2 rfl
  have d73 := C7.out.cell 3 rfl
  have d7f := fun o => C7.out.fz o
  refine ze (i := 5) (by kernel_rfl) rfl (fun K hK => ?_)
  go_simp
  refine hK.out _ _ (fun h => absurd h (by decide)) ?_
  clear hK K
  try simp only [aP, sT, sZ, sS]
  refine zm (by kernel_rfl) ?_ _
  refine ⟨rfl, ?_⟩
  clear SA S1 S2
  go_wp2
  refine bodyPost_ret (v := .tuple #[γ #[σ sq L2.length cq], γ #[O ι st, σ sA xs.length cA, σ zp23 ss.length cB, O ι off]]) (by simp [results, Tryz.results54, go_sem, d6, d70, d71, d72, d73]) rfl ?_
  have hkx : KX H b (σ sA xs.length cA) (σ zp23 ss.length cB) w t1 := (F1.out.drew.kx).kf HS2.out.kf
  have hdv : DV t1 H (σ sA xs.length cA) (σ zp23 ss.length cB) xs ss := DV.kf F1.out.drew.dv HS2.out.kf hbH
  have hNG : ∀ q : Bx t1 w.heap.size 25 [σ g L.length cap], NudgeOk w H b (σ sA xs.length cA) (σ zp23 ss.length cB) (.returned (.tuple #[γ #[σ sq L2.length cq], γ #[O ι st, σ sA xs.length cA, σ zp23 ss.length cB, O ι off]])) (((((t1.setCell ⟨w.heap.size + 2, 0, none⟩ (σ sq L2.length cq)).setCell ⟨w.heap.size + 3, 0, none⟩ (O ι st)).setCell ⟨w.heap.size + 3, 1, none⟩ (σ sA xs.length cA)).setCell ⟨w.heap.size + 3, 2, none⟩ (σ zp23 ss.length cB)).setCell ⟨w.heap.size + 3, 3, none⟩ (O ι off)) := fun q => by
   have r1 := zs2 hdv.a (Ne.symm (C6.out.ne hdv.a (by decide))) (Ne.symm (C7.out.ne hdv.a (by decide))) (σ sq L2.length cq) (O ι st) (σ sA xs.length cA) (σ zp23 ss.length cB) (O ι off) 0 0 1 2 3
   have r2 := zs2 hdv.c (Ne.symm (C6.out.ne hdv.c (by decide))) (Ne.symm (C7.out.ne hdv.c (by decide))) (σ sq L2.length cq) (O ι st) (σ sA xs.length cA) (σ zp23 ss.length cB) (O ι off) 0 0 1 2 3
   have r3 := HD2.out.set5 C6.out C7.out (by decide) (by decide) (by decide) (by decide) (σ sq L2.length cq) (O ι st) (σ sA xs.length cA) (σ zp23 ss.length cB) (O ι off) 0 0 1 2 3
   have r4 := HS2.out.src.set5 (k1 := w.heap.size + 2) (k2 := w.heap.size + 3) (by omega) (by omega) (σ sq L2.length cq) (O ι st) (σ sA xs.length cA) (σ zp23 ss.length cB) (O ι off) 0 0 1 2 3
   have r5 := hkx.set5 (k1 := w.heap.size + 2) (k2 := w.heap.size + 3) (by omega) (by omega) (σ sq L2.length cq) (O ι st) (σ sA xs.length cA) (σ zp23 ss.length cB) (O ι off) 0 0 1 2 3
   exact ⟨_, L2, st, xs, ss, off, rfl, r3, HG2.out, ⟨r1, r2, hdv.dj⟩, lx, ls, r4, r5⟩
  exact hNG F2.out.1
 have e0 : (kv == 0) = false := by simpa using hq
 rcases Classical.em (kv = 1) with hq1 | hq1
 ·subst hq1
  go_wp2_with fail
  have SA : Hid ((fun w' : World => w'.cell? ⟨w.heap.size, 0, none⟩ = some (σ g L.length cap)) W1.drew) := b3
  refine zv (S := (fun w' : World => w'.cell? ⟨w.heap.size, 0, none⟩ = some (σ g L.length cap))) (late := [7]) (by kernel_rfl) ?_
  refine zd (i := 0) (v := π (some ⟨w.heap.size, 0, none⟩)) rfl (by kernel_rfl) (by kernel_rfl) (fun _ _ _ h => by cases h.1) _ (by kernel_rfl) (by kernel_rfl) (Or.inl ⟨by rfl, ?_⟩) SA.out ?_
  ·intro w' z0
   go_simp
  simp only [aP, sT, sZ, sS]
  refine zd (i := 1) (v := σ g L.length cap) rfl (by kernel_rfl) (by kernel_rfl) (fun _ _ _ h => by cases h.1) _ (by kernel_rfl) (by kernel_rfl) (Or.inl ⟨by rfl, ?_⟩) SA.out ?_
  ·intro w' z0
   go_simp
  simp only [aP, sT, sZ, sS]
  refine zd (i := 2) (v := O ι L.length) rfl (by kernel_rfl) (by kernel_rfl) (fun _ _ _ h => by cases h.1) _ (by kernel_rfl) (by kernel_rfl) (Or.inl ⟨by rfl, ?_⟩) SA.out ?_
  ·intro w' z0
   go_simp
  simp only [aP, sT, sZ, sS]
  refine zd (i := 3) (v := π (some ⟨b, 0, none⟩)) rfl (by kernel_rfl) (by kernel_rfl) (fun _ _ _ h => by cases h.1) _ (by kernel_rfl) (by kernel_rfl) (Or.inl ⟨by rfl, ?_⟩) SA.out ?_
  ·intro w' z0
   go_simp
  simp only [aP, sT, sZ, sS]
  refine ze (i := 4) (by kernel_rfl) rfl (fun K hK => ?_)
  go_simp
  refine (F1.out.drew.sf.next 2).mono ?_
  rintro e t1 ⟨z, rfl, ⟨hz0, hz1, _⟩, s5, m5⟩
  have F2 := hide (F1.out.drew.mut s5.src m5)
  have S1 : Hid ((fun w' : World => w'.cell? ⟨w.heap.size, 0, none⟩ = some (σ g L.length cap)) t1) := F2.out.b3.cell 0 rfl
  refine hK.out _ _ (fun _ => S1.out) ?_
  clear hK K
  try simp only [aP, sT, sZ, sS]
  clear s5 m5 hz1 b40 b41 b42 b43 b4f b3
  have q40 := F2.out.b4.cell 0 rfl
  have q4f := F2.out.b4.fz 0
  refine ze (i := 5) (by kernel_rfl) rfl (fun K hK => ?_)
  go_simp
  refine hK.out _ _ (fun _ => S1.out) ?_
  clear hK K
  try simp only [aP, sT, sZ, sS]
  refine ze (i := 6) (by kernel_rfl) rfl (fun K hK => ?_)
  go_simp
  refine hK.out _ _ (fun _ => S1.out) ?_
  clear hK K
  try simp only [aP, sT, sZ, sS]
  refine ze (i := 7) (by kernel_rfl) rfl (fun K hK => ?_)
  go_simp
  refine hK.out _ _ (fun h => absurd h (by decide)) ?_
  clear hK K
  try simp only [aP, sT, sZ, sS]
  refine zm (by kernel_rfl) ?_ _
  refine ⟨rfl, ?_⟩
  clear SA S1
  have F3 := hide (F2.out.st0 (wrap64 ((L.length : Int) * z)))
  clear q40 q4f
  have d3 := F3.out.b3.cell 0 rfl
  have d40 := F3.out.b4.cell 0 rfl
  have d41 := F3.out.b4.cell 1 rfl
  have d42 := F3.out.b4.cell 2 rfl
  have d43 := F3.out.b4.cell 3 rfl
  have d6 := F3.out.b6.cell 0 rfl
  have d6f := F3.out.b6.fz 0
  have d70 := F3.out.b7.cell 0 rfl
  have d71 := F3.out.b7.cell 1 rfl
  have d72 := F3.out.b7.cell 2 rfl
  have d73 := F3.out.b7.cell 3 rfl
  have d7f := fun o => F3.out.b7.fz o
  have HFN := hide (F3.out.fin (σ g L.length cap) F3.out.dh F3.out.dg).drew
  go_upto_region 12 with fail
  go_region
  go_wp2
  exact bodyPost_ret (v := .tuple #[γ #[σ g L.length cap], γ #[O ι (wrap64 ((L.length : Int) * z)), σ sA xs.length cA, σ zp23 ss.length cB, O ι off]]) (by simp [results, Tryz.results54, go_sem, d6, d70, d71, d72, d73]) rfl HFN.out
 have e1 : (kv == 1) = false := by simpa using hq1
 rcases Classical.em (kv = 2) with hq2 | hq2
 ·subst hq2
  have F3 := hide (F1.out.off0 (wrap64 (off + 9)))
  have g43 := F1.out.b4.fz 3
  have d3 := F3.out.b3.cell 0 rfl
  have d40 := F3.out.b4.cell 0 rfl
  have d41 := F3.out.b4.cell 1 rfl
  have d42 := F3.out.b4.cell 2 rfl
  have d43 := F3.out.b4.cell 3 rfl
  have d6 := F3.out.b6.cell 0 rfl
  have d6f := F3.out.b6.fz 0
  have d70 := F3.out.b7.cell 0 rfl
  have d71 := F3.out.b7.cell 1 rfl
  have d72 := F3.out.b7.cell 2 rfl
  have d73 := F3.out.b7.cell 3 rfl
  have d7f := fun o => F3.out.b7.fz o
  have HFN := hide (F3.out.fin (σ g L.length cap) F3.out.dh F3.out.dg).drew
  go_upto_region 12 with fail
  go_region
  go_wp2
  exact bodyPost_ret (v := .tuple #[γ #[σ g L.length cap], γ #[O ι st, σ sA xs.length cA, σ zp23 ss.length cB, O ι (wrap64 (off + 9))]]) (by simp [results, Tryz.results54, go_sem, d6, d70, d71, d72, d73]) rfl HFN.out
 have e2 : (kv == 2) = false := by simpa using hq2
 rcases Classical.em (kv = 3) with hq3 | hq3
 ·subst hq3
  rcases (show 0 < ss.length ∨ ss.length = 0 by omega) with hc | hc
  ·have hc1 : (0 : Int) < (ss.length : Int) := by omega
   have hc2 : decide ((0 : Int) < (ss.length : Int)) = true := decide_eq_true hc1
   obtain ⟨s', c', hse, hq⟩ := zh F1.out.dv.c
   simp only [Value.slice.injEq, true_and] at hse
   obtain ⟨gB, hgB, _⟩ := hq hc
   obtain rfl := hse.1.trans hgB
   clear hse hgB hq
   obtain ⟨_, _, hr, hf⟩ := zi2 F1.out.dv.c
   have c0 := hr 0 hc
   rw [Nat.add_zero] at c0
   generalize ss.getD 0 0 = y0 at c0
   have f0 := hf 0
   have F3 := hide (F1.out.str0 (j := 0) 0)
   clear hr hf
   go_upto_region 12 with fail
   generalize W1.setCell ⟨gB, 0, none⟩ (O ι 0) = W3 at F3 ⊢
   clear c0 f0 b3 b40 b41 b42 b43 b4f
   have d3 := F3.out.b3.cell 0 rfl
   have d40 := F3.out.b4.cell 0 rfl
   have d41 := F3.out.b4.cell 1 rfl
   have d42 := F3.out.b4.cell 2 rfl
   have d43 := F3.out.b4.cell 3 rfl
   have d6 := F3.out.b6.cell 0 rfl
   have d6f := F3.out.b6.fz 0
   have d70 := F3.out.b7.cell 0 rfl
   have d71 := F3.out.b7.cell 1 rfl
   have d72 := F3.out.b7.cell 2 rfl
   have d73 := F3.out.b7.cell 3 rfl
   have d7f := fun o => F3.out.b7.fz o
   have HFN := hide (F3.out.fin (σ g L.length cap) F3.out.dh F3.out.dg).drew
   go_region
   go_wp2
   exact bodyPost_ret (v := .tuple #[γ #[σ g L.length cap], γ #[O ι st, σ sA xs.length cA, σ (some ⟨gB, 0, none⟩) ss.length cB, O ι off]]) (by simp [results, Tryz.results54, go_sem, d6, d70, d71, d72, d73]) rfl HFN.out
  ·have hc2 : decide ((0 : Int) < (ss.length : Int)) = false := decide_eq_false (by omega)
   have hc3 : ¬ (0 : Int) < (ss.length : Int) := by omega
   clear hc
   have d3 := F1.out.b3.cell 0 rfl
   have d40 := F1.out.b4.cell 0 rfl
   have d41 := F1.out.b4.cell 1 rfl
   have d42 := F1.out.b4.cell 2 rfl
   have d43 := F1.out.b4.cell 3 rfl
   have d6 := F1.out.b6.cell 0 rfl
   have d6f := F1.out.b6.fz 0
   have d70 := F1.out.b7.cell 0 rfl
   have d71 := F1.out.b7.cell 1 rfl
   have d72 := F1.out.b7.cell 2 rfl
   have d73 := F1.out.b7.cell 3 rfl
   have d7f := fun o => F1.out.b7.fz o
   have HFN := hide (F1.out.fin (σ g L.length cap) F1.out.dh F1.out.dg).drew
   go_upto_region 12 with fail
   go_region
   go_wp2
   exact bodyPost_ret (v := .tuple #[γ #[σ g L.length cap], γ #[O ι st, σ sA xs.length cA, σ zp23 ss.length cB, O ι off]]) (by simp [results, Tryz.results54, go_sem, d6, d70, d71, d72, d73]) rfl HFN.out
 have e3 : (kv == 3) = false := by simpa using hq3
 rcases Classical.em (kv = 4) with hq4 | hq4
 ·subst hq4
  rcases (show 0 < xs.length ∨ xs.length = 0 by omega) with hc | hc
  ·have hc1 : (0 : Int) < (xs.length : Int) := by omega
   have hc2 : decide ((0 : Int) < (xs.length : Int)) = true := decide_eq_true hc1
   obtain ⟨s', c', hse, hq⟩ := zh F1.out.dv.a
   simp only [Value.slice.injEq, true_and] at hse
   obtain ⟨gA, hgA, _⟩ := hq hc
   obtain rfl := hse.1.trans hgA
   clear hse hgA hq
   obtain ⟨_, _, hr, hf⟩ := zi2 F1.out.dv.a
   have c0 := hr 0 hc
   rw [Nat.add_zero] at c0
   generalize hx0 : xs.getD 0 0 = x0 at c0
   have HX0 := hide hx0
   clear hr hf hx0
   go_wp2_with fail
   have SA : Hid ((fun w' : World => w'.cell? ⟨w.heap.size + 1, 1, none⟩ = some (σ (some ⟨gA, 0, none⟩) xs.length cA) ∧ w'.cell? ⟨gA, 0, none⟩ = some (O ι x0)) W1.drew) := ⟨b41, c0⟩
   refine zv (S := (fun w' : World => w'.cell? ⟨w.heap.size + 1, 1, none⟩ = some (σ (some ⟨gA, 0, none⟩) xs.length cA) ∧ w'.cell? ⟨gA, 0, none⟩ = some (O ι x0))) (late := [14]) (by kernel_rfl) ?_
   refine zd (i := 0) (v := π (some ⟨w.heap.size + 1, 1, none⟩)) rfl (by kernel_rfl) (by kernel_rfl) (fun _ _ _ h => by cases h.1) _ (by kernel_rfl) (by kernel_rfl) (Or.inl ⟨by rfl, ?_⟩) SA.out ?_
   ·rintro w' ⟨z0, z1⟩
    go_simp
   simp only [aP, sT, sZ, sS]
   refine zd (i := 1) (v := π (some ⟨w.heap.size + 1, 1, none⟩)) rfl (by kernel_rfl) (by kernel_rfl) (fun _ _ _ h => by cases h.1) _ (by kernel_rfl) (by kernel_rfl) (Or.inl ⟨by rfl, ?_⟩) SA.out ?_
   ·rintro w' ⟨z0, z1⟩
    go_simp
   simp only [aP, sT, sZ, sS]
   refine zd (i := 2) (v := σ (some ⟨gA, 0, none⟩) xs.length cA) rfl (by kernel_rfl) (by kernel_rfl) (fun _ _ _ h => by cases h.1) _ (by kernel_rfl) (by kernel_rfl) (Or.inl ⟨by rfl, ?_⟩) SA.out ?_
   ·rintro w' ⟨z0, z1⟩
    go_simp
   simp only [aP, sT, sZ, sS]
   refine zd (i := 3) (v := π (some ⟨w.heap.size + 1, 1, none⟩)) rfl (by kernel_rfl) (by kernel_rfl) (fun _ _ _ h => by cases h.1) _ (by kernel_rfl) (by kernel_rfl) (Or.inl ⟨by rfl, ?_⟩) SA.out ?_
   ·rintro w' ⟨z0, z1⟩
    go_simp
   simp only [aP, sT, sZ, sS]
   refine zd (i := 4) (v := π (some ⟨w.heap.size + 1, 1, none⟩)) rfl (by kernel_rfl) (by kernel_rfl) (fun _ _ _ h => by cases h.1) _ (by kernel_rfl) (by kernel_rfl) (Or.inl ⟨by rfl, ?_⟩) SA.out ?_
   ·rintro w' ⟨z0, z1⟩
    go_simp
   simp only [aP, sT, sZ, sS]
   refine zd (i := 5) (v := σ (some ⟨gA, 0, none⟩) xs.length cA) rfl (by kernel_rfl) (by kernel_rfl) (fun _ _ _ h => by cases h.1) _ (by kernel_rfl) (by kernel_rfl) (Or.inl ⟨by rfl, ?_⟩) SA.out ?_
   ·rintro w' ⟨z0, z1⟩
    go_simp
   simp only [aP, sT, sZ, sS]
   refine zd (i := 6) (v := π (some ⟨gA, 0, none⟩)) rfl (by kernel_rfl) (by kernel_rfl) (fun _ _ _ h => by cases h.1) _ (by kernel_rfl) (by kernel_rfl) (Or.inl ⟨by rfl, ?_⟩) SA.out ?_
   ·rintro w' ⟨z0, z1⟩
    go_simp
   simp only [aP, sT, sZ, sS]
   refine zd (i := 7) (v := O ι x0) rfl (by kernel_rfl) (by kernel_rfl) (fun _ _ _ h => by cases h.1) _ (by kernel_rfl) (by kernel_rfl) (Or.inl ⟨by rfl, ?_⟩) SA.out ?_
   ·rintro w' ⟨z0, z1⟩
    go_simp
   simp only [aP, sT, sZ, sS]
   refine zd (i := 8) (v := O ι (IntKind.i64.wrap (x0 + 1))) rfl (by kernel_rfl) (by kernel_rfl) (fun _ _ _ h => by cases h.1) _ (by kernel_rfl) (by kernel_rfl) (Or.inl ⟨by rfl, ?_⟩) SA.out ?_
   ·rintro w' ⟨z0, z1⟩
    go_simp
   simp only [aP, sT, sZ, sS]
   refine zd (i := 9) (v := π (some ⟨b, 0, none⟩)) rfl (by kernel_rfl) (by kernel_rfl) (fun _ _ _ h => by cases h.1) _ (by kernel_rfl) (by kernel_rfl) (Or.inl ⟨by rfl, ?_⟩) SA.out ?_
   ·rintro w' ⟨z0, z1⟩
    go_simp
   simp only [aP, sT, sZ, sS]
   refine ze (i := 10) (by kernel_rfl) rfl (fun K hK => ?_)
   go_simp
   refine (F1.out.drew.sf.next 2).mono ?_
   rintro e t1 ⟨z, rfl, ⟨hz0, hz1, _⟩, s5, m5⟩
   have hz2 := hz1 (by omega)
   have F2 := hide (F1.out.drew.mut s5.src m5)
   obtain ⟨_, _, hr, hf⟩ := zi2 F2.out.dv.a
   have c0b := hr 0 hc
   rw [Nat.add_zero, HX0.out] at c0b
   have f0b := hf 0
   clear hr hf
   have S1 : Hid ((fun w' : World => w'.cell? ⟨w.heap.size + 1, 1, none⟩ = some (σ (some ⟨gA, 0, none⟩) xs.length cA) ∧ w'.cell? ⟨gA, 0, none⟩ = some (O ι x0)) t1) := ⟨F2.out.b4.cell 1 rfl, c0b⟩
   refine hK.out _ _ (fun _ => S1.out) ?_
   clear hK K
   try simp only [aP, sT, sZ, sS]
   clear s5 m5 hz1 b40 b41 b42 b43 b4f b3 c0
   refine ze (i := 11) (by kernel_rfl) rfl (fun K hK => ?_)
   go_simp
   refine hK.out _ _ (fun _ => S1.out) ?_
   clear hK K
   try simp only [aP, sT, sZ, sS]
   refine ze (i := 12) (by kernel_rfl) rfl (fun K hK => ?_)
   go_simp
   refine hK.out _ _ (fun _ => S1.out) ?_
   clear hK K
   try simp only [aP, sT, sZ, sS]
   refine ze (i := 13) (by kernel_rfl) rfl (fun K hK => ?_)
   go_simp
   refine hK.out _ _ (fun _ => S1.out) ?_
   clear hK K
   try simp only [aP, sT, sZ, sS]
   refine ze (i := 14) (by kernel_rfl) rfl (fun K hK => ?_)
   go_simp
   refine hK.out _ _ (fun h => absurd h (by decide)) ?_
   clear hK K
   try simp only [aP, sT, sZ, sS]
   refine zm (by kernel_rfl) ?_ _
   refine ⟨rfl, ?_⟩
   clear SA S1
   have F3 := hide (F2.out.shp0 (j := 0) (IntKind.i64.wrap (IntKind.i64.wrap (x0 + 1) - IntKind.i64.wrap (2 * z))))
   go_upto_region 12 with fail
   generalize t1.setCell ⟨gA, 0, none⟩ (O ι (IntKind.i64.wrap (IntKind.i64.wrap (x0 + 1) - IntKind.i64.wrap (2 * z)))) = W3 at F3 ⊢
   clear c0b f0b
   have d3 := F3.out.b3.cell 0 rfl
   have d40 := F3.out.b4.cell 0 rfl
   have d41 := F3.out.b4.cell 1 rfl
   have d42 := F3.out.b4.cell 2 rfl
   have d43 := F3.out.b4.cell 3 rfl
   have d6 := F3.out.b6.cell 0 rfl
   have d6f := F3.out.b6.fz 0
   have d70 := F3.out.b7.cell 0 rfl
   have d71 := F3.out.b7.cell 1 rfl
   have d72 := F3.out.b7.cell 2 rfl
   have d73 := F3.out.b7.cell 3 rfl
   have d7f := fun o => F3.out.b7.fz o
   have HFN := hide (F3.out.fin (σ g L.length cap) F3.out.dh F3.out.dg).drew
   go_region
   go_wp2
   exact bodyPost_ret (v := .tuple #[γ #[σ g L.length cap], γ #[O ι st, σ (some ⟨gA, 0, none⟩) xs.length cA, σ zp23 ss.length cB, O ι off]]) (by simp [results, Tryz.results54, go_sem, d6, d70, d71, d72, d73]) rfl HFN.out
  ·have hc2 : decide ((0 : Int) < (xs.length : Int)) = false := decide_eq_false (by omega)
   have hc3 : ¬ (0 : Int) < (xs.length : Int) := by omega
   clear hc
   have d3 := F1.out.b3.cell 0 rfl
   have d40 := F1.out.b4.cell 0 rfl
   have d41 := F1.out.b4.cell 1 rfl
   have d42 := F1.out.b4.cell 2 rfl
   have d43 := F1.out.b4.cell 3 rfl
   have d6 := F1.out.b6.cell 0 rfl
   have d6f := F1.out.b6.fz 0
   have d70 := F1.out.b7.cell 0 rfl
   have d71 := F1.out.b7.cell 1 rfl
   have d72 := F1.out.b7.cell 2 rfl
   have d73 := F1.out.b7.cell 3 rfl
   have d7f := fun o => F1.out.b7.fz o
   have HFN := hide (F1.out.fin (σ g L.length cap) F1.out.dh F1.out.dg).drew
   go_upto_region 12 with fail
   go_region
   go_wp2
   exact bodyPost_ret (v := .tuple #[γ #[σ g L.length cap], γ #[O ι st, σ sA xs.length cA, σ zp23 ss.length cB, O ι off]]) (by simp [results, Tryz.results54, go_sem, d6, d70, d71, d72, d73]) rfl HFN.out
 have e4 : (kv == 4) = false := by simpa using hq4
 have d3 := F1.out.b3.cell 0 rfl
 have d40 := F1.out.b4.cell 0 rfl
 have d41 := F1.out.b4.cell 1 rfl
 have d42 := F1.out.b4.cell 2 rfl
 have d43 := F1.out.b4.cell 3 rfl
 have d6 := F1.out.b6.cell 0 rfl
 have d6f := F1.out.b6.fz 0
 have d70 := F1.out.b7.cell 0 rfl
 have d71 := F1.out.b7.cell 1 rfl
 have d72 := F1.out.b7.cell 2 rfl
 have d73 := F1.out.b7.cell 3 rfl
 have d7f := fun o => F1.out.b7.fz o
 have HFN := hide (F1.out.fin (σ g L.length cap) F1.out.dh F1.out.dg).drew
 go_upto_region 12 with fail
 go_region
 go_wp2
 exact bodyPost_ret (v := .tuple #[γ #[σ g L.length cap], γ #[O ι st, σ sA xs.length cA, σ zp23 ss.length cB, O ι off]]) (by simp [results, Tryz.results54, go_sem, d6, d70, d71, d72, d73]) rfl HFN.out
end
section
open Go.ChangeShapes Go.RowKit FL
structure LB2 (w W : World) (H b : Nat) (v : Value) (L : List Int) : Prop where
 sf : SF w W H b
 gb : w.grownBy W (some b)
 own : W.ownsRow w.heap.size 2 1 v L.length (L.map (Value.int .i64))
theorem LB2.next {w W : World} {H b : Nat} {v : Value} {L : List Int} (h : LB2 w W H b v L) (m : Int) :
  Calls Tryz.prog 46 #[π (some ⟨b, 0, none⟩), O ι m] W fun e W' => ∃ x : Int, e = .returned (O ι x) ∧ (0 ≤ x ∧ (1 < m → x < m) ∧ (m ≤ 1 → x = 0)) ∧ LB2 w W' H b v L :=
 (h.sf.next m).mono fun e W' hh => by
  obtain ⟨x, h1, h2, h3, h4⟩ := hh
  have h5 := h.sf.hb
  have h6 := h.sf.hH
  exact ⟨x, h1, h2, h3, zf6 h.gb (zy3 h4), zn9 h.own h4 (fun e => by have := (h.own.lt b e).1; omega)⟩
theorem grown_alz {b : Nat} {u w : World} (h : u.grownBy w (some b)) (o : Obj) : u.grownBy (w.alloc o) (some b) :=
 zf6 h (World.grownBy_alloc w o _)
theorem LB2.step {w wr w3 : World} {H b : Nat} {v v3 : Value} {L : List Int} (h : LB2 w wr H b v L) (x : Int)
  (hown : w3.ownsRow w.heap.size 2 1 v3 (L.length + 1) (L.map (Value.int .i64) ++ [O ι x])) (hgrow : (wr.alloc (χ #[O ι x] 2)).grownBy w3 v.ownBlock) : LB2 w w3 H b v3 (L ++ [x]) := by
 have hr : ∀ k, v.ownBlock = some k → w.heap.size ≤ k := fun k hk => (h.own.lt k hk).1
 refine ⟨(h.sf.alloc _).new hgrow hr, zg14 (grown_alz h.gb _) hgrow hr, ?_⟩
 rw [List.length_append, List.map_append]
 exact hown
theorem LB2.start {w : World} {H b : Nat} (hs : SF w w H b) : LB2 w (w.alloc (χ #[] 2)) H b (σ (some ⟨w.heap.size, 0, none⟩) 0 0) [] :=
 ⟨hs.alloc _, World.grownBy_alloc w _ _, World.ownsRow_made (base := w.heap.size) (e := 2) (size := 1) w #[] 0 (Nat.le_refl _) (by unfold maxLen; omega) rfl⟩
theorem LB2.set {w W : World} {H b g n c : Nat} {L : List Int} (h : LB2 w W H b (σ (some ⟨g, 0, none⟩) n c) L) (j : Nat) (x : Int) : LB2 w (W.setCell ⟨g, j, none⟩ (O ι x)) H b (σ (some ⟨g, 0, none⟩) n c) (L.set j x) := by
 obtain ⟨hn, hg, _⟩ := zi2 h.own
 subst hn
 have hs := h.own.stored j (O ι x)
 refine ⟨h.sf.set hg _ _, zg14 h.gb hs.2 (fun k e => by injection e with e; omega), ?_⟩
 rw [List.length_set, List.map_set]
 exact hs.1
theorem zg15 {w : World} {H b : Nat} (hs : SF w w H b) : Calls Tryz.prog 47 #[π (some ⟨b, 0, none⟩)] w fun e W => ∃ (sa : Option Addr) (cap : Nat) (L : List Int), e = .returned (σ sa L.length cap) ∧ Sm L ∧ LB2 w W H b (σ sa L.length cap) L := by
 obtain ⟨i0, hi0, hz0, hz1, hz2⟩ := info_parts zy7
 have S0 := hide (LB2.start hs)
 clear hs
 go_enter Tryz.func47, Tryz.ntmps47
 go_wp2_with fail
 generalize w.alloc (χ #[] 2) = V0 at S0 ⊢
 refine (S0.out.next 4).mono ?_
 rintro e W1 ⟨v1, rfl, ⟨b1, b2, _⟩, s1⟩
 have b3 := b2 (by omega)
 have S1 := hide s1
 clear s1 S0 b2
 obtain ⟨n, hn⟩ : ∃ n : Nat, v1 = (n : Int) := ⟨v1.toNat, by omega⟩
 subst hn
 go_wp2_with fail
 go_loopw [3, 4] (fun o i wr => ∃ (d : Nat) (L : List Int), i = O ι d ∧ d + L.length ≤ 3 ∧ (∀ n ∈ L, 0 ≤ n ∧ n ≤ 4) ∧ (∃ s c, o = σ s L.length c) ∧ LB2 w wr H b o L) (fun o i _ => (intOf i).toNat)
 case atStart => exact ⟨n, [], rfl, by simp; omega, (fun n h => by simp at h), ⟨_, _, rfl⟩, S1.out⟩
 case round =>
  obtain ⟨d, L, rfl, hd, hsm, ⟨s, c, rfl⟩, hL⟩ := hrel
  have HL := hide hL
  have HSM := hide hsm
  clear hL hsm
  by_cases hp : 0 < d
  ·have hp1 : (0 : Int) < (d : Int) := by omega
   go_wp2_with fail
   refine (HL.out.next 12).mono ?_
   rintro e W2 ⟨k, rfl, ⟨bk, _, _⟩, s2⟩
   have S2 := hide s2
   clear s2 HL
   rcases Classical.em (k = 11) with hk | hk
   ·subst hk
    go_wp2_with fail
    refine (S2.out.next 2).mono ?_
    rintro e W3 ⟨z, rfl, bz, s3⟩
    have S3 := hide s3
    clear s3 S2
    rcases Classical.em (z = 0) with hz | hz
    ·subst hz
     go_wp2_with (at_builtin; (refine wpList_append_lies _ rfl _ _ 26 rfl w.heap.size 2 i0 (O ι 0) 1 8 Tryz.underlying26 hi0 hz0 hz1 hz2 rfl (by decide) (σ s L.length c) L.length (L.map (Value.int .i64)) rfl (S3.out.own.alloc _) ⟨W3.heap.size, 0, none⟩ 1 1 [O ι (0)] rfl rfl (zq _ _ _) (zt1 _) (by omega) (by unfold maxLen; omega) (by omega) (by have := S3.out.gb.size; simp; omega) (W3.heap.size + 1) (by simp) ?_); intro g3 c3 w3 hown3 hgrow3 hat3 hlt3)
     have HSt := hide (S3.out.step (0) hown3 hgrow3)
     clear hown3 hgrow3 hat3 hlt3
     go_wp2
     go_roundw
     ·exact ⟨d - 1, L ++ [0], by go_num, by simp; omega, (fun n hn => by rcases List.mem_append.1 hn with q | q; exact HSM.out n q; simp at q; omega), ⟨some ⟨g3, 0, none⟩, c3, by simp⟩, HSt.out⟩
     ·simp [intOf]; omega
    ·have dz : (z == 0) = false := by simp [hz]
     go_wp2_with (at_builtin; (refine wpList_append_lies _ rfl _ _ 26 rfl w.heap.size 2 i0 (O ι 0) 1 8 Tryz.underlying26 hi0 hz0 hz1 hz2 rfl (by decide) (σ s L.length c) L.length (L.map (Value.int .i64)) rfl (S3.out.own.alloc _) ⟨W3.heap.size, 0, none⟩ 1 1 [O ι (4)] rfl rfl (zq _ _ _) (zt1 _) (by omega) (by unfold maxLen; omega) (by omega) (by have := S3.out.gb.size; simp; omega) (W3.heap.size + 1) (by simp) ?_); intro g3 c3 w3 hown3 hgrow3 hat3 hlt3)
     have HSt := hide (S3.out.step (4) hown3 hgrow3)
     clear hown3 hgrow3 hat3 hlt3
     go_wp2
     go_roundw
     ·exact ⟨d - 1, L ++ [4], by go_num, by simp; omega, (fun n hn => by rcases List.mem_append.1 hn with q | q; exact HSM.out n q; simp at q; omega), ⟨some ⟨g3, 0, none⟩, c3, by simp⟩, HSt.out⟩
     ·simp [intOf]; omega
   ·have dk : (k == 11) = false := by simp [hk]
    go_wp2_with (at_builtin; (refine wpList_append_lies _ rfl _ _ 26 rfl w.heap.size 2 i0 (O ι 0) 1 8 Tryz.underlying26 hi0 hz0 hz1 hz2 rfl (by decide) (σ s L.length c) L.length (L.map (Value.int .i64)) rfl (S2.out.own.alloc _) ⟨W2.heap.size, 0, none⟩ 1 1 [O ι (1 + k % 4)] rfl rfl (zq _ _ _) (zt1 _) (by omega) (by unfold maxLen; omega) (by omega) (by have := S2.out.gb.size; simp; omega) (W2.heap.size + 1) (by simp) ?_); intro g3 c3 w3 hown3 hgrow3 hat3 hlt3)
    have HSt := hide (S2.out.step (1 + k % 4) hown3 hgrow3)
    clear hown3 hgrow3 hat3 hlt3
    go_wp2
    go_roundw
    ·exact ⟨d - 1, L ++ [1 + k % 4], by go_num, by simp; omega, (fun n hn => by rcases List.mem_append.1 hn with q | q; exact HSM.out n q; simp at q; omega), ⟨some ⟨g3, 0, none⟩, c3, by simp⟩, HSt.out⟩
    ·simp [intOf]; omega
  ·have hp1 : ¬ (0 : Int) < (d : Int) := by omega
   go_wp2
   go_ret
   exact ⟨s, c, L, rfl, ⟨by omega, HSM.out⟩, HL.out⟩
def NarrowOk (w : World) (H b : Nat) (e : Ending) (W : World) : Prop := ∃ (u : Value) (zo23 : List Int), e = .returned u ∧ Sm zo23 ∧ IK W H u zo23 ∧ SF w W H b ∧ w.grownBy W (some b)
def NRel (w : World) (H b g cap : Nat) (ys : List Int) (i : Value) (wr : World) : Prop := ∃ (k : Nat) (L : List Int), i = O ι k ∧ k ≤ ys.length ∧ L.length = ys.length ∧ Sm L ∧ LB2 w wr H b (σ (some ⟨g, 0, none⟩) ys.length cap) L
theorem zn8 {w : World} {H b : Nat} {v : Value} {ys : List Int} (hs : SF w w H b) (hy : Ints w v ys) (hsm : Sm ys) : Calls Tryz.prog 51 #[π (some ⟨b, 0, none⟩), v] w fun e W => NarrowOk w H b e W := by
 have hl := hsm.1
 have HC := hide (zw9 hy (by omega))
 have HS := hide hs
 have HSM := hide hsm
 have hHw := hs.hH
 obtain ⟨sv, cv, rfl, _⟩ := hy
 clear hs hsm
 go_enter Tryz.func51, Tryz.ntmps51
 go_wp2_with fail
 refine HC.out.mono ?_
 rintro e W1 ⟨g, cap, rfl, hown, hb⟩
 have S1 : Hid (LB2 w W1 H b (σ (some ⟨g, 0, none⟩) ys.length cap) ys) := ⟨HS.out.bel hb, za21 b hb, hown⟩
 clear hown hb HC
 go_wp2_with fail
 go_loopw [6] (fun i wr => NRel w H b g cap ys i wr) (fun i _ => ys.length - (intOf i).toNat)
 case atStart => exact ⟨0, ys, rfl, by omega, rfl, HSM.out, S1.out⟩
 case round =>
  obtain ⟨k, L, rfl, hk, hLl, hsm, hL⟩ := hrel
  have HL := hide hL
  have HLl := hide hLl
  have HSL := hide hsm
  clear hL hLl hsm S1
  by_cases hlt : k < ys.length
  ·have hk1 : (k : Int) < (ys.length : Int) := by omega
   have hk0 : (0 : Int) ≤ (k : Int) := Int.natCast_nonneg _
   go_wp2_with fail
   refine (HL.out.next 6).mono ?_
   rintro e W2 ⟨z, rfl, bz, s2⟩
   have S2 := hide s2
   clear s2 HL
   rcases Classical.em (z = 0) with hz | hz
   ·subst hz
    obtain ⟨hm9, _, hr, hf⟩ := zi2 S2.out.own
    clear hm9
    have c0 := hr k (by have := HLl.out; omega)
    rw [Nat.zero_add] at c0
    have f0 := hf k
    clear hr hf
    go_wp2
    go_roundw
    ·refine ⟨k + 1, L.set k 1, by go_num, by omega, by simp [HLl.out], ⟨by simpa using HSL.out.1, fun n hn => ?_⟩, S2.out.set k 1⟩
     rcases List.mem_or_eq_of_mem_set hn with q | q
     ·exact HSL.out.2 n q
     ·omega
    ·simp [intOf]; omega
   ·have dz : (z == 0) = false := by simp [hz]
    go_wp2_with fail
    go_roundw
    ·exact ⟨k + 1, L, by go_num, by omega, HLl.out, HSL.out, S2.out⟩
    ·simp [intOf]; omega
  ·have hk1 : decide ((k : Int) < (ys.length : Int)) = false := decide_eq_false (by omega)
   have IK0 : Hid (∀ W, LB2 w W H b (σ (some ⟨g, 0, none⟩) ys.length cap) L → IK W H (σ (some ⟨g, 0, none⟩) ys.length cap) L) := fun W h => IK.of (zq3 h.own hHw)
   rcases (show 0 < ys.length ∨ ys.length = 0 by omega) with hp | hp
   ·have hp1 : decide ((0 : Int) < (ys.length : Int)) = true := decide_eq_true (by omega)
    have hp2 : (0 : Int) < (ys.length : Int) := by omega
    have hp3 : (1 : Int) ≤ (ys.length : Int) := by omega
    go_wp2_with fail
    refine (HL.out.next 6).mono ?_
    rintro e W2 ⟨z, rfl, bz, s2⟩
    have S2 := hide s2
    clear s2 HL
    rcases Classical.em (z = 0) with hz | hz
    ·subst hz
     obtain ⟨hm, hgg, hr, hf⟩ := zi2 S2.out.own
     have hcap : ys.length ≤ cap := by
      rcases S2.out.own.2 with ⟨e, _⟩ | ⟨_, _, _, e, _, _, q, _⟩
      ·simp at e
      ·simp only [Value.slice.injEq] at e; omega
     have HR := hide hr
     have hgg2 : H ≤ g := by omega
     have NKg := hide (zu13 S2.out.own (by decide) (by decide) rfl)
     clear hr hf hm
     rcases (show cap = 1 ∨ 1 < cap by omega) with hc1 | hc1
     ·subst hc1
      go_wp2
      go_ret
      exact ⟨σ (some ⟨g, 0, none⟩) 0 0, [], rfl, ⟨by simp, fun n hn => by simp at hn⟩, ⟨some ⟨g, 0, none⟩, 0, rfl, Or.inl rfl⟩, S2.out.sf, S2.out.gb⟩
     ·go_wp2
      go_ret
      refine ⟨σ (some ⟨g, 1, none⟩) (ys.length - 1) (cap - 1), L.drop 1, rfl, ⟨by have := HSL.out.1; simp; omega, fun n hn => HSL.out.2 n (List.mem_of_mem_drop hn)⟩, ⟨some ⟨g, 1, none⟩, cap - 1, by rw [List.length_drop, HLl.out], Or.inr ⟨g, 1, rfl, fun j hj => ?_, by omega, NKg.out⟩⟩, S2.out.sf, S2.out.gb⟩
      have h1 := HR.out (1 + j) (by simp at hj; omega)
      rw [Nat.zero_add] at h1
      rw [h1]
      congr 2
      simp [List.getD_eq_getElem?_getD, Nat.add_comm]
    ·have dz : (z == 0) = false := by simp [hz]
     go_wp2
     go_ret
     exact ⟨_, L, rfl, HSL.out, IK0.out _ S2.out, S2.out.sf, S2.out.gb⟩
   ·have hp1 : decide ((0 : Int) < (ys.length : Int)) = false := decide_eq_false (by omega)
    go_wp2
    go_ret
    exact ⟨_, L, rfl, HSL.out, IK0.out _ HL.out, HL.out.sf, HL.out.gb⟩
theorem zz20 (op dt : Int) (w : World) : Calls Tryz.prog 53 #[O ι op, O ι dt] w fun e w' => (∃ q : Bool, e = .returned (.bool q)) ∧ w' = w := by
 go_enter Tryz.func53, Tryz.ntmps53
 go_wp2_with fail
 refine (zo dt w).mono ?_
 rintro e w' ⟨rfl, rfl⟩
 generalize skindL dt = k
 rcases Classical.em (op = 4) with h4 | h4
 ·subst h4
  rcases Classical.em (k = 1) with q | q
  ·subst q
   go_wp2
   go_ret
   exact ⟨⟨_, rfl⟩, rfl⟩
  ·have q1 : (k == 1) = false := by simp [q]
   go_wp2
   go_ret
   exact ⟨⟨_, rfl⟩, rfl⟩
 have e4 : (op == 4) = false := by simp [h4]
 rcases Classical.em (op = 9) with h9 | h9
 ·subst h9
  go_wp2
  go_ret
  exact ⟨⟨_, rfl⟩, rfl⟩
 have e9 : (op == 9) = false := by simp [h9]
 rcases Classical.em (op = 10) with h10 | h10
 ·subst h10
  go_wp2
  go_ret
  exact ⟨⟨_, rfl⟩, rfl⟩
 have e10 : (op == 10) = false := by simp [h10]
 rcases Classical.em (op = 5) with h5 | h5
 ·subst h5
  go_wp2
  go_ret
  exact ⟨⟨_, rfl⟩, rfl⟩
 have e5 : (op == 5) = false := by simp [h5]
 rcases Classical.em (op = 6) with h6 | h6
 ·subst h6
  go_wp2
  go_ret
  exact ⟨⟨_, rfl⟩, rfl⟩
 have e6 : (op == 6) = false := by simp [h6]
 rcases Classical.em (op = 7) with h7 | h7
 ·subst h7
  go_wp2
  go_ret
  exact ⟨⟨_, rfl⟩, rfl⟩
 have e7 : (op == 7) = false := by simp [h7]
 go_wp2
 go_ret
 exact ⟨⟨_, rfl⟩, rfl⟩
end
section
open Go.ChangeShapes Go.RowKit FL
attribute [local go_sem] zz15 zh13
theorem zy2 {w : World} {H b st : Nat} (hs : SF w w H b) {sv : Value} {L0 : List Dst} (hD : DH w H sv L0) (hG : DG L0) (hO : DtOk L0) {vS : Value} {ys : List Int} (hY : IK w H vS ys) (hy : Sm ys) (hst : st < L0.length) :
  Calls Tryz.prog 48 #[γ #[sv], π (some ⟨b, 0, none⟩), vS, O ι st] w fun e W => FitOk w H b L0.length st e W := by
 obtain ⟨i0, hi0, hz0, hz1, hz2⟩ := info_parts zy7
 obtain ⟨i6, hi6, hx0, hx1, hx2⟩ := info_parts zk4
 have hbH := hs.hb
 have hHw := hs.hH
 have hone : 0 < 1 := Nat.one_pos
 obtain ⟨t0, ht0⟩ : ∃ t0, L0[st]? = some t0 := ⟨_, List.getElem?_eq_getElem hst⟩
 obtain ⟨g, cap, rfl, _, _, _, hg1, hg2⟩ := hD.at ht0
 obtain ⟨sy, cy, hvS, _⟩ := hY
 subst hvS
 have hY : IK w H (σ sy ys.length cy) ys := ⟨sy, cy, rfl, by assumption⟩
 have HY := hide hY
 have hyl := hy.1
 have HSM := hide hy
 obtain ⟨N, hN⟩ : ∃ N : Nat, cntL ys = (N : Int) := ⟨(cntL ys).toNat, by have := hy.prod; rw [hy.cnt]; omega⟩
 have hN64 : N ≤ 64 := by have := hy.prod; rw [hy.cnt] at hN; omega
 have HN := hide hN
 have hL70 := hG.cnt
 have F0 : Hid (FB w (((w.alloc (χ #[σ (some ⟨g, 0, none⟩) L0.length cap] 25)).alloc (χ #[σ none 0 0] 25)).alloc (χ #[O ι 0, σ none 0 0, σ none 0 0, O ι 0] 30)) H b L0.length (σ (some ⟨g, 0, none⟩) L0.length cap) L0) :=
  ⟨((hs.alloc _).alloc _).alloc _, ((hD.alloc _).alloc _).alloc _, hG, hO, rfl, ((Bx.new w 25 #[σ (some ⟨g, 0, none⟩) L0.length cap] _ rfl).alloc _).alloc _, (Bx.new (w.alloc (χ #[σ (some ⟨g, 0, none⟩) L0.length cap] 25)) 25 #[σ none 0 0] _ (by simp)).alloc _, Bx.new ((w.alloc (χ #[σ (some ⟨g, 0, none⟩) L0.length cap] 25)).alloc (χ #[σ none 0 0] 25)) 30 #[O ι 0, σ none 0 0, σ none 0 0, O ι 0] _ (by simp)⟩
 clear hs hD hG hO hy hY hN ht0
 go_enter Tryz.func48, Tryz.ntmps48
 go_wp2_with fail
 generalize ((w.alloc (χ #[σ (some ⟨g, 0, none⟩) L0.length cap] 25)).alloc (χ #[σ none 0 0] 25)).alloc (χ #[O ι 0, σ none 0 0, σ none 0 0, O ι 0] 30) = W0 at F0 ⊢
 refine (zj1 (HY.out.kf F0.out.sf.kf hbH).ints (by omega)).mono ?_
 rintro e w1 ⟨rfl, rfl⟩
 rw [HN.out]
 go_wp2_with fail
 go_loopw [] (fun wr => ∃ (L : List Dst), FB w wr H b L0.length (σ (some ⟨g, 0, none⟩) L.length cap) L) (fun wr => 5001 - lenAt wr g (st * 2 + 1))
 case atStart => exact ⟨L0, F0.out⟩
 case round =>
  obtain ⟨L, hF⟩ := hrel
  obtain ⟨wv, rfl⟩ : ∃ wv, wv = wr := ⟨_, rfl⟩
  have hLl := hF.len
  obtain ⟨t, ht⟩ : ∃ t, L[st]? = some t := ⟨_, List.getElem?_eq_getElem (by omega)⟩
  obtain ⟨g', cap', hgg, c0, c1, _, _, _⟩ := hF.dh.at ht
  simp only [Value.slice.injEq, Option.some.injEq, Addr.mk.injEq, and_true, true_and] at hgg
  obtain ⟨rfl, rfl⟩ := hgg
  have hfew := hF.dg.few t (List.mem_of_getElem? ht)
  have hdt := hF.dt t (List.mem_of_getElem? ht)
  obtain ⟨sa, ca, hv, hva⟩ := zd4 (hF.dh.cel st t ht)
  obtain ⟨d, v, cs⟩ := t
  simp only at hv hfew hdt c0 c1 hva
  subst hv
  have HF := hide hF
  have HT := hide ht
  have b4 := hF.b4.cell 0 rfl
  clear hF ht F0 hva
  have hst2 : (st : Int) < (L.length : Int) := by omega
  have hst0 : (0 : Int) ≤ (st : Int) := Int.natCast_nonneg _
  by_cases hlt : cs.length < N + 3
  ·have hlt1 : (cs.length : Int) < (N : Int) + 3 := by omega
   go_wp2_with fail
   have SA : Hid ((fun w' : World => w'.cell? ⟨w.heap.size, 0, none⟩ = some (σ (some ⟨g, 0, none⟩) L.length cap) ∧ w'.cell? ⟨g, st * 2 + 1, none⟩ = some (σ sa cs.length ca) ∧ w'.cell? ⟨g, st * 2, none⟩ = some (O ι d)) wv.drew) := ⟨b4, c1, c0⟩
   refine zv (S := (fun w' : World => w'.cell? ⟨w.heap.size, 0, none⟩ = some (σ (some ⟨g, 0, none⟩) L.length cap) ∧ w'.cell? ⟨g, st * 2 + 1, none⟩ = some (σ sa cs.length ca) ∧ w'.cell? ⟨g, st * 2, none⟩ = some (O ι d))) (late := [21]) (by kernel_rfl) ?_
   refine zd (i := 0) (v := π (some ⟨w.heap.size, 0, none⟩)) rfl (by kernel_rfl) (by kernel_rfl) (fun _ _ _ h => by cases h.1) _ (by kernel_rfl) (by kernel_rfl) (Or.inl ⟨by rfl, ?_⟩) SA.out ?_
   ·rintro w' ⟨z0, z1, z2⟩
    go_simp
   simp only [aP, sT, sZ, sS]
   refine zd (i := 1) (v := σ (some ⟨g, 0, none⟩) L.length cap) rfl (by kernel_rfl) (by kernel_rfl) (fun _ _ _ h => by cases h.1) _ (by kernel_rfl) (by kernel_rfl) (Or.inl ⟨by rfl, ?_⟩) SA.out ?_
   ·rintro w' ⟨z0, z1, z2⟩
    go_simp
   simp only [aP, sT, sZ, sS]
   refine zd (i := 2) (v := O ι st) rfl (by kernel_rfl) (by kernel_rfl) (fun _ _ _ h => by cases h.1) _ (by kernel_rfl) (by kernel_rfl) (Or.inl ⟨by rfl, ?_⟩) SA.out ?_
   ·rintro w' ⟨z0, z1, z2⟩
    go_simp
   simp only [aP, sT, sZ, sS]
   refine zd (i := 3) (v := π (some ⟨w.heap.size, 0, none⟩)) rfl (by kernel_rfl) (by kernel_rfl) (fun _ _ _ h => by cases h.1) _ (by kernel_rfl) (by kernel_rfl) (Or.inl ⟨by rfl, ?_⟩) SA.out ?_
   ·rintro w' ⟨z0, z1, z2⟩
    go_simp
   simp only [aP, sT, sZ, sS]
   refine zd (i := 4) (v := σ (some ⟨g, 0, none⟩) L.length cap) rfl (by kernel_rfl) (by kernel_rfl) (fun _ _ _ h => by cases h.1) _ (by kernel_rfl) (by kernel_rfl) (Or.inl ⟨by rfl, ?_⟩) SA.out ?_
   ·rintro w' ⟨z0, z1, z2⟩
    go_simp
   simp only [aP, sT, sZ, sS]
   refine zd (i := 5) (v := O ι st) rfl (by kernel_rfl) (by kernel_rfl) (fun _ _ _ h => by cases h.1) _ (by kernel_rfl) (by kernel_rfl) (Or.inl ⟨by rfl, ?_⟩) SA.out ?_
   ·rintro w' ⟨z0, z1, z2⟩
    go_simp
   simp only [aP, sT, sZ, sS]
   refine zd (i := 6) (v := π (some ⟨g, st * 2, none⟩)) rfl (by kernel_rfl) (by kernel_rfl) (fun _ _ _ h => by cases h.1) _ (by kernel_rfl) (by kernel_rfl) (Or.inl ⟨by rfl, ?_⟩) SA.out ?_
   ·rintro w' ⟨z0, z1, z2⟩
    go_simp
   simp only [aP, sT, sZ, sS]
   refine zd (i := 7) (v := π (some ⟨g, st * 2 + 1, none⟩)) rfl (by kernel_rfl) (by kernel_rfl) (fun _ _ _ h => by cases h.1) _ (by kernel_rfl) (by kernel_rfl) (Or.inl ⟨by rfl, ?_⟩) SA.out ?_
   ·rintro w' ⟨z0, z1, z2⟩
    go_simp
   simp only [aP, sT, sZ, sS]
   refine zd (i := 8) (v := σ sa cs.length ca) rfl (by kernel_rfl) (by kernel_rfl) (fun _ _ _ h => by cases h.1) _ (by kernel_rfl) (by kernel_rfl) (Or.inl ⟨by rfl, ?_⟩) SA.out ?_
   ·rintro w' ⟨z0, z1, z2⟩
    go_simp
   simp only [aP, sT, sZ, sS]
   refine zd (i := 9) (v := π (some ⟨b, 0, none⟩)) rfl (by kernel_rfl) (by kernel_rfl) (fun _ _ _ h => by cases h.1) _ (by kernel_rfl) (by kernel_rfl) (Or.inl ⟨by rfl, ?_⟩) SA.out ?_
   ·rintro w' ⟨z0, z1, z2⟩
    go_simp
   simp only [aP, sT, sZ, sS]
   refine zd (i := 10) (v := π (some ⟨w.heap.size, 0, none⟩)) rfl (by kernel_rfl) (by kernel_rfl) (fun _ _ _ h => by cases h.1) _ (by kernel_rfl) (by kernel_rfl) (Or.inl ⟨by rfl, ?_⟩) SA.out ?_
   ·rintro w' ⟨z0, z1, z2⟩
    go_simp
   simp only [aP, sT, sZ, sS]
   refine zd (i := 11) (v := σ (some ⟨g, 0, none⟩) L.length cap) rfl (by kernel_rfl) (by kernel_rfl) (fun _ _ _ h => by cases h.1) _ (by kernel_rfl) (by kernel_rfl) (Or.inl ⟨by rfl, ?_⟩) SA.out ?_
   ·rintro w' ⟨z0, z1, z2⟩
    go_simp
   simp only [aP, sT, sZ, sS]
   refine zd (i := 12) (v := O ι st) rfl (by kernel_rfl) (by kernel_rfl) (fun _ _ _ h => by cases h.1) _ (by kernel_rfl) (by kernel_rfl) (Or.inl ⟨by rfl, ?_⟩) SA.out ?_
   ·rintro w' ⟨z0, z1, z2⟩
    go_simp
   simp only [aP, sT, sZ, sS]
   refine zd (i := 13) (v := π (some ⟨g, st * 2, none⟩)) rfl (by kernel_rfl) (by kernel_rfl) (fun _ _ _ h => by cases h.1) _ (by kernel_rfl) (by kernel_rfl) (Or.inl ⟨by rfl, ?_⟩) SA.out ?_
   ·rintro w' ⟨z0, z1, z2⟩
    go_simp
   simp only [aP, sT, sZ, sS]
   refine zd (i := 14) (v := π (some ⟨g, st * 2, none⟩)) rfl (by kernel_rfl) (by kernel_rfl) (fun _ _ _ h => by cases h.1) _ (by kernel_rfl) (by kernel_rfl) (Or.inl ⟨by rfl, ?_⟩) SA.out ?_
   ·rintro w' ⟨z0, z1, z2⟩
    go_simp
   simp only [aP, sT, sZ, sS]
   refine zd (i := 15) (v := O ι d) rfl (by kernel_rfl) (by kernel_rfl) (fun _ _ _ h => by cases h.1) _ (by kernel_rfl) (by kernel_rfl) (Or.inl ⟨by rfl, ?_⟩) SA.out ?_
   ·rintro w' ⟨z0, z1, z2⟩
    go_simp
   simp only [aP, sT, sZ, sS]
   refine ze (i := 16) (by kernel_rfl) rfl (fun K hK => ?_)
   go_simp
   refine ((HF.out.sf.drew).cell hdt).mono ?_
   rintro e t1 ⟨X, Y, Z, rfl, hok, s5, m5⟩
   have HF1 : Hid (FB w t1 H b L0.length (σ (some ⟨g, 0, none⟩) L.length cap) L) := (HF.out.drew).mut s5 m5
   obtain ⟨_, _, hgg, e0, e1, _, _, _⟩ := HF1.out.dh.at HT.out
   simp only [Value.slice.injEq, Option.some.injEq, Addr.mk.injEq, and_true, true_and] at hgg
   obtain ⟨rfl, rfl⟩ := hgg
   have S1 : Hid ((fun w' : World => w'.cell? ⟨w.heap.size, 0, none⟩ = some (σ (some ⟨g, 0, none⟩) L.length cap) ∧ w'.cell? ⟨g, st * 2 + 1, none⟩ = some (σ sa cs.length ca) ∧ w'.cell? ⟨g, st * 2, none⟩ = some (O ι d)) t1) := ⟨HF1.out.b4.cell 0 rfl, e1, e0⟩
   refine hK.out _ _ (fun _ => S1.out) ?_
   clear hK K
   try simp only [aP, sT, sZ, sS]
   clear s5 m5 e0 e1
   refine ze (i := 17) (by kernel_rfl) rfl (fun K hK => ?_)
   go_simp
   have HF2 : Hid (FB w (t1.alloc (χ #[O ι X, .float .f64 Y, .float .f64 Z] 47)) H b L0.length (σ (some ⟨g, 0, none⟩) L.length cap) L) := HF1.out.alloc _
   obtain ⟨_, _, hgg, e0, e1, _, _, _⟩ := HF2.out.dh.at HT.out
   simp only [Value.slice.injEq, Option.some.injEq, Addr.mk.injEq, and_true, true_and] at hgg
   obtain ⟨rfl, rfl⟩ := hgg
   have S2 : Hid ((fun w' : World => w'.cell? ⟨w.heap.size, 0, none⟩ = some (σ (some ⟨g, 0, none⟩) L.length cap) ∧ w'.cell? ⟨g, st * 2 + 1, none⟩ = some (σ sa cs.length ca) ∧ w'.cell? ⟨g, st * 2, none⟩ = some (O ι d)) (t1.alloc (χ #[O ι X, .float .f64 Y, .float .f64 Z] 47))) := ⟨HF2.out.b4.cell 0 rfl, e1, e0⟩
   refine hK.out _ _ (fun _ => S2.out) ?_
   clear hK K
   try simp only [aP, sT, sZ, sS]
   clear e0 e1
   have HNW : Hid (∀ q u, (c3v (X, Y, Z))[q]? = some u → (t1.alloc (χ #[O ι X, .float .f64 Y, .float .f64 Z] 47)).cell? ((⟨t1.heap.size, 0, none⟩ : Addr).add q) = some u) := fun q u hq => by
    rw [Addr.add_lit, Nat.zero_add, zg t1 _ 47 _ rfl q]
    simpa [c3v] using hq
   have hszt : H ≤ t1.heap.size := by have := HF1.out.sf.sz; omega
   have OW1 : Hid ((t1.alloc (χ #[O ι X, .float .f64 Y, .float .f64 Z] 47)).ownsRow H 47 3 (σ sa cs.length ca) cs.length (flat cs)) := HF2.out.dh.cel st _ HT.out
   refine ze (i := 18) (by kernel_rfl) rfl (fun K hK => ?_)
   refine step_append_lies _ (by rfl) (.tmp 39) (.tmp 48) 39 (by rfl) H 47 i6 (γ #[O ι 0, .float .f64 0, .float .f64 0]) 3 24 Tryz.underlying39 hi6 hx0 hx1 hx2 rfl (by decide) (σ sa cs.length ca) cs.length (flat cs) (by rfl) OW1.out ⟨t1.heap.size, 0, none⟩ 1 1 (c3v (X, Y, Z)) (by rfl) (by rfl) HNW.out (zp3 _) (by omega) (by unfold maxLen; omega) (by omega) (by simp; omega) (t1.heap.size + 1) (by simp) ?_
   intro g5 cap5 w5 hown5 hgrow5 hat5 hlt5
   have HEND : Hid (FB w (w5.setCell ⟨g, st * 2 + 1, none⟩ (σ (some ⟨g5, 0, none⟩) (cs.length + 1) cap5)) H b L0.length _ _) := HF2.out.grow HT.out (c := (X, Y, Z)) hok (by show cs.length < 5000; omega) hown5 hgrow5 (fun k e => by
    simp only [Value.ownBlock, Option.some.injEq] at e
    subst e
    rcases hat5 with q | q
    ·exact Or.inl q
    ·refine Or.inr ?_
     rw [q]; simp)
   have HF5 : Hid (DH w5 H (σ (some ⟨g, 0, none⟩) L.length cap) L ∨ True) := Or.inr trivial
   have c45 : w5.cell? ⟨w.heap.size, 0, none⟩ = some (σ (some ⟨g, 0, none⟩) L.length cap) := (HF2.out.b4.gb hgrow5 (HF2.out.b4.ne OW1.out (by decide))).cell 0 rfl
   have ow5 : w5.ownsRow H 41 2 (σ (some ⟨g, 0, none⟩) L.length cap) L.length (flatD L) := HF2.out.dh.own.kept hgrow5 (zg1 HF2.out.dh.own OW1.out (by decide))
   have hfd := zz3 L st _ HT.out
   have c15 := (ow5.cellAt (st * 2 + 1) (by omega)).trans hfd.2
   have c05 := (ow5.cellAt (st * 2) (by omega)).trans hfd.1
   have f15 := ow5.frozenAt (st * 2 + 1)
   have HLN : Hid (lenAt (w5.setCell ⟨g, st * 2 + 1, none⟩ (σ (some ⟨g5, 0, none⟩) (cs.length + 1) cap5)) g (st * 2 + 1) = cs.length + 1) := zg4 (World.cell?_setCell_same _ _ _ c15)
   have HL0 : Hid (lenAt wv g (st * 2 + 1) = cs.length) := zg4 c1
   have S3 : Hid ((fun w' : World => w'.cell? ⟨w.heap.size, 0, none⟩ = some (σ (some ⟨g, 0, none⟩) L.length cap) ∧ w'.cell? ⟨g, st * 2 + 1, none⟩ = some (σ sa cs.length ca) ∧ w'.cell? ⟨g, st * 2, none⟩ = some (O ι d)) w5) := ⟨c45, c15, c05⟩
   refine hK.out _ _ (fun _ => S3.out) ?_
   clear hK K
   try simp only [aP, sT, sZ, sS]
   clear hown5 hgrow5 hat5 hlt5 ow5 hfd
   refine ze (i := 19) (by kernel_rfl) rfl (fun K hK => ?_)
   go_simp
   refine hK.out _ _ (fun _ => S3.out) ?_
   clear hK K
   try simp only [aP, sT, sZ, sS]
   refine ze (i := 20) (by kernel_rfl) rfl (fun K hK => ?_)
   go_simp
   refine hK.out _ _ (fun _ => S3.out) ?_
   clear hK K
   try simp only [aP, sT, sZ, sS]
   refine ze (i := 21) (by kernel_rfl) rfl (fun K hK => ?_)
   go_simp
   refine hK.out _ _ (fun h => absurd h (by decide)) ?_
   clear hK K
   try simp only [aP, sT, sZ, sS]
   refine zm (by kernel_rfl) ?_ _
   refine ⟨rfl, ?_⟩
   clear SA S1 S2 S3 HNW HF5
   go_wp2_with fail
   go_roundw
   ·exact ⟨_, HEND.out⟩
   ·rw [HLN.out, HL0.out]; omega
  ·have hlt1 : decide ((cs.length : Int) < (N : Int) + 3) = false := decide_eq_false (by omega)
   have HLL := hide hLl
   clear c0 hdt hLl
   have hcs0 : Hid (cs.length = cs.length) := rfl
   go_wp2_with fail
   refine (HF.out.sf.next 3).mono ?_
   rintro e W2 ⟨o1, rfl, ⟨ho0, ho1, _⟩, s2, m2⟩
   have HF2 := hide (HF.out.mut s2 m2)
   have ho2 := ho1 (by omega)
   clear s2 m2 ho1 HF b4 c1 HT
   go_wp2_with fail
   refine (zt7 o1 (HY.out.kf HF2.out.sf.kf hbH).ints (by omega)).mono ?_
   rintro e W3 ⟨sa1, sb1, ca1, cb1, xs, ss, rfl, hDV, hVI, hB, c9, o9, hrs⟩
   rw [zv17 HSM.out] at hrs
   simp only [Prod.mk.injEq] at hrs
   obtain ⟨hc9, hxs, hss, ho9⟩ := hrs
   clear hc9 ho9
   have hls : ss.length = ys.length := by rw [← hss, zt5]
   have hlx : xs.length = ys.length := by rw [← hxs]
   have hsz2 := HF2.out.b9.lt
   have hsz3 := Below.size hB
   have F3 : Hid (FV w (W3.alloc (χ #[σ sa1 xs.length ca1, σ sb1 ss.length cb1, O ι o1] 28)) H b L0.length (σ (some ⟨g, 0, none⟩) L.length cap) L W3.heap.size (σ sa1 xs.length ca1) (σ sb1 ss.length cb1) xs ss o1) :=
    ⟨(HF2.out.bel hB).alloc _, Bx.new W3 28 #[σ sa1 xs.length ca1, σ sb1 ss.length cb1, O ι o1] _ rfl, (hDV.low (by omega)).bel ((Below.refl W3.heap.size W3).alloc (Nat.le_refl _) _), by omega, by omega, by omega⟩
   have hINS : Hid (VI xs ss) := hVI
   have HLS := hide hls
   clear hDV hVI hB hxs hss HF2 hls hlx
   go_wp2_with fail
   generalize hk12 : W3.heap.size = k12 at F3 hsz3 ⊢
   generalize W3.alloc (χ #[σ sa1 xs.length ca1, σ sb1 ss.length cb1, O ι o1] 28) = W4 at F3 ⊢
   clear hk12
   refine (F3.out.fb.sf.next 4).mono ?_
   rintro e W5 ⟨kv, rfl, ⟨hk0, hk1, _⟩, s5, m5⟩
   have hk2 := hk1 (by omega)
   have F5 := hide (F3.out.mut s5 m5)
   clear s5 m5 hk1 F3 hsz2
   go_upto_region 7 with fail
   go_cut [71] (fun s71 wx => ∃ q : Bool, s71 = .bool q ∧ W5 = wx ∧ (q = true → kv = 0 ∧ 1 < ys.length))
   case first =>
    --BEG A
    as_aux_lemma =>
     rcases Classical.em (kv = 0) with hq | hq
     ·have hq1 : (kv == 0) = true := by simpa using hq
      have HQ := hide hq
      clear hq
      go_wp2
      go_meet
      case rel => exact ⟨_, rfl, rfl, fun h => ⟨HQ.out, by simp at h; omega⟩⟩
     ·have hq1 : (kv == 0) = false := by simpa using hq
      go_wp2
      go_meet
      case rel => exact ⟨_, rfl, rfl, fun h => by simp at h⟩
    --END A
   case rest =>
   obtain ⟨q1, rfl, rfl, hq1⟩ := hcut
   go_upto_if 71 with fail
   go_cut [14, 15, 16] (fun _ _ _ wx => ∃ (vA vB : Value) (zo23 ts : List Int) (o2 : Int), FV w wx H b L0.length (σ (some ⟨g, 0, none⟩) L.length cap) L k12 vA vB zo23 ts o2 ∧ (¬ kv = 0 → ts.length = ys.length))
   case first =>
    cases q1 with
    | false =>
     go_wp2
     go_meet
     case rel => exact ⟨_, _, xs, ss, o1, F5.out, fun _ => HLS.out⟩
    | true =>
     obtain ⟨hkv, hy1⟩ := hq1 rfl
     --BEG B
     as_aux_lemma =>
      have hkv0 := hide hkv
      clear hq1
      have T0 : Hid (TL W5 ((W5.alloc (χ #[] 2)).alloc (χ #[] 2)) (σ (some ⟨W5.heap.size, 0, none⟩) ([] : List Int).length 0) (σ (some ⟨W5.heap.size + 1, 0, none⟩) ([] : List Int).length 0) [] []) :=
       ⟨(((Ext.refl W5).alloc _ _).alloc _ _).bl, (World.ownsRow_made (base := W5.heap.size) (e := 2) (size := 1) W5 #[] 0 (Nat.le_refl _) (by unfold maxLen; omega) rfl).alloc _, by
        have := World.ownsRow_made (base := W5.heap.size) (e := 2) (size := 1) (W5.alloc (χ #[] 2)) #[] 0 (by simp) (by unfold maxLen; omega) rfl
        simpa using this, Or.inr (by simp [Value.ownBlock])⟩
      clear hkv
      go_wp2_with fail
      generalize (W5.alloc (χ #[] 2)).alloc (χ #[] 2) = W50 at T0 ⊢
      go_loopw [14, 15, 16] (fun o p i wr => ∃ (k : Nat) (s1 s2 : Option Addr) (c1 c2 : Nat) (Lb Lp : List Int), i = O ι k ∧ k ≤ ys.length ∧ Lb.length = k ∧ Lp.length = k ∧ o = σ s1 Lb.length c1 ∧ p = σ s2 Lp.length c2 ∧ TL W5 wr o p Lb Lp) (fun _ _ i _ => ys.length - (intOf i).toNat)
      case atStart => exact ⟨0, _, _, _, _, [], [], rfl, by omega, rfl, rfl, rfl, rfl, T0.out⟩
      case round =>
       obtain ⟨k, s1, s2, c1, c2, Lb, Lp, rfl, hk, hlb, hlp, rfl, rfl, hT⟩ := hrel
       have HT := hide hT
       clear hT T0
       have hbl := HT.out.bel
       obtain ⟨gy, oy, rfl, hry⟩ := (HY.out.kf (F5.out.bel HT.out.bel).fb.sf.kf hbH).at (by omega)
       have HRY := hide hry
       have HLB := hide hlb
       have HLP := hide hlp
       clear hry hbl
       by_cases hlt : k < ys.length
       ·have hj1 : (k : Int) < (ys.length : Int) := by omega
        obtain ⟨j, hj⟩ : ∃ j : Nat, (ys.length : Int) - 1 - (k : Int) = (j : Int) := ⟨ys.length - 1 - k, by omega⟩
        have hj0 : (0 : Int) ≤ (j : Int) := Int.natCast_nonneg _
        have hj2 : (j : Int) < (ys.length : Int) := by omega
        have cy0 := HRY.out j (by omega)
        generalize ys.getD j 0 = x at cy0
        have hk3 : k ≤ 3 := by omega
        clear hlb hlp
        have hLb3 : Lb.length ≤ 3 := by have := HLB.out; omega
        have hLp3 : Lp.length ≤ 3 := by have := HLP.out; omega
        have hsW : W5.heap.size ≤ wr.heap.size := Below.size HT.out.bel
        go_wp2_with (first | (at_builtin; go_loud ((refine wpList_append_lies _ rfl (.tmp 80) (.tmp 89) 26 rfl W5.heap.size 2 i0 (O ι 0) 1 8 Tryz.underlying26 hi0 hz0 hz1 hz2 rfl hone (σ s1 Lb.length c1) Lb.length (Lb.map (Value.int .i64)) rfl (HT.out.a.alloc _) ⟨wr.heap.size, 0, none⟩ 1 1 [O ι x] rfl rfl (zq _ _ _) (zt1 _) (by omega) (by unfold maxLen; omega) (by omega) (by simp; omega) (wr.heap.size + 1) (by simp) ?_); intro g3 c3 w3 hown3 hgrow3 hat3 hlt3; have HT3 := hide (HT.out.step x hown3 hgrow3 hat3); clear hown3 hgrow3 hat3 hlt3; have hsW3 : W5.heap.size ≤ w3.heap.size := Below.size HT3.out.bel)) | (at_builtin; go_loud ((refine wpList_append_lies _ rfl (.tmp 91) (.tmp 97) 26 rfl W5.heap.size 2 i0 (O ι 0) 1 8 Tryz.underlying26 hi0 hz0 hz1 hz2 rfl hone (σ s2 Lp.length c2) Lp.length (Lp.map (Value.int .i64)) rfl (HT3.out.c.alloc _) ⟨w3.heap.size, 0, none⟩ 1 1 [O ι (j : Int)] rfl rfl (zq _ _ _) (zt1 _) (by omega) (by unfold maxLen; omega) (by omega) (by simp; omega) (w3.heap.size + 1) (by simp) ?_); intro g4 c4 w4 hown4 hgrow4 hat4 hlt4; have HT4 := hide (HT3.out.swap.step (j : Int) hown4 hgrow4 hat4).swap; clear hown4 hgrow4 hat4 hlt4)))
        go_roundw
        ·have h4 := HT4.out
         have e1 : (Lb ++ [x]).length = Lb.length + 1 := by simp
         have e2 : (Lp ++ [(j : Int)]).length = Lp.length + 1 := by simp
         rw [e1, e2] at h4
         exact ⟨k + 1, some ⟨g3, 0, none⟩, some ⟨g4, 0, none⟩, c3, c4, Lb ++ [x], Lp ++ [(j : Int)], by go_num, by omega, by have := HLB.out; omega, by have := HLP.out; omega, by rw [e1], by rw [e2], h4⟩
        ·simp [intOf]; omega
       ·have hkk : k = ys.length := by omega
        have hj1 : decide ((k : Int) < (ys.length : Int)) = false := decide_eq_false (by omega)
        have hLb3 : Lb.length ≤ 3 := by have := HLB.out; omega
        have hLp3 : Lp.length ≤ 3 := by have := HLP.out; omega
        clear hlb hlp
        have F6 := hide (F5.out.bel HT.out.bel)
        have IB := hide (zy HT.out.a)
        go_wp2_with fail
        refine (F6.out.fb.sf.next 3).mono ?_
        rintro e W7 ⟨o7, rfl, _, s7, m7⟩
        have F7 := hide (F6.out.mut s7 m7)
        have hb5 : b < W5.heap.size := by have := F5.out.fb.b9.lt; omega
        have IB7 : Hid (Ints W7 (σ s1 Lb.length c1) Lb) := zy (zn9 HT.out.a m7 (fun e => by have := (HT.out.a.lt b e).1; omega))
        have IP7 : Hid (W7.ownsRow W5.heap.size 2 1 (σ s2 Lp.length c2) Lp.length (Lp.map (Value.int .i64))) := zn9 HT.out.c m7 (fun e => by have := (HT.out.c.lt b e).1; omega)
        clear s7 m7 F6 IB
        go_wp2_with fail
        refine (zt7 o7 IB7.out (by omega)).mono ?_
        rintro e W8 ⟨sa8, sb8, ca8, cb8, x8, s8, rfl, hDV8, hVI8, hB8, _⟩
        have F8 := hide (F7.out.bel hB8)
        have IP8 := hide (zy (zi3 IP7.out hB8))
        have D8a := hide (zy hDV8.a)
        have D8c := hide (zy hDV8.c)
        have hv8 : x8.length ≤ 4 ∧ s8.length ≤ 4 := by have := hVI8.1.1; have := hVI8.2.1; omega
        clear hDV8 hB8 hVI8 F7
        go_wp2_with fail
        rcases htr : trL x8 s8 o7 Lp with ⟨c10, L10, S10, o10⟩
        have hl10 := zm19 htr (by omega)
        refine (zt19 D8a.out D8c.out IP8.out o7 (by omega) (by omega) (by omega) htr).mono ?_
        rintro e W10 h10
        obtain ⟨sa', sb', ca', cb', rfl, hD10, hB10⟩ := h10.dv (H := w.heap.size + 3) (by have := F8.out.fb.b9.lt; omega)
        have F10 := hide (F8.out.bel hB10)
        have D10 := hide hD10
        have b10 := F10.out.bv.cell 0 rfl
        have b11 := F10.out.bv.cell 1 rfl
        have b12 := F10.out.bv.cell 2 rfl
        have b1f := fun o => F10.out.bv.fz o
        clear h10 hD10 hB10 htr F8
        go_wp2
        go_meet
        case rel => exact ⟨_, _, L10, S10, o10, F10.out.lay D10.out hl10.1 hl10.2, fun h => absurd hkv0.out h⟩
     --END B
   case rest =>
   obtain ⟨vA, vB, zo23, ts, o2, hF6, htl⟩ := hcut
   obtain ⟨W6, rfl⟩ : ∃ W6, W6 = wc := ⟨_, rfl⟩
   have F6 := hide hF6
   have HTL := hide htl
   clear hF6 htl F5 hINS HLS hq1
   go_upto_region 16 with fail
   go_cut [116] (fun s116 wx => ∃ q : Bool, s116 = .bool q ∧ W6 = wx ∧ (q = true → kv = 1 ∧ 0 < ys.length))
   case first =>
    --BEG C
    as_aux_lemma =>
     rcases Classical.em (kv = 1) with hq | hq
     ·have hq1 : (kv == 1) = true := by simpa using hq
      have HQ := hide hq
      clear hq
      rcases (show 0 < ys.length ∨ ys.length = 0 by omega) with hp | hp
      ·have hp1 : (0 : Int) < (ys.length : Int) := by omega
       have hp2 : decide ((0 : Int) < (ys.length : Int)) = true := decide_eq_true hp1
       go_wp2
       go_meet
       case rel => exact ⟨_, rfl, rfl, fun h => ⟨HQ.out, hp⟩⟩
      ·have hp2 : decide ((0 : Int) < (ys.length : Int)) = false := decide_eq_false (by omega)
       go_wp2
       go_meet
       case rel => exact ⟨_, rfl, rfl, fun h => by simp at h⟩
     ·have hq1 : (kv == 1) = false := by simpa using hq
      go_wp2
      go_meet
      case rel => exact ⟨_, rfl, rfl, fun h => by simp at h⟩
    --END C
   case rest =>
   obtain ⟨q2, rfl, rfl, hq2⟩ := hcut
   go_upto_if 116 with fail
   go_cut [] (fun wx => ∃ (ts2 : List Int) (o3 : Int), FV w wx H b L0.length (σ (some ⟨g, 0, none⟩) L.length cap) L k12 vA vB zo23 ts2 o3 ∧ (¬ kv = 0 → ts2.length = ys.length))
   case first =>
    cases q2 with
    | false =>
     go_wp2
     go_meet
     case rel => exact ⟨ts, o2, F6.out, HTL.out⟩
    | true =>
     --BEG D
     as_aux_lemma =>
      obtain ⟨hkv, hyp⟩ := hq2 rfl
      have htl := HTL.out (by omega)
      have HKV := hide hkv
      clear hq2 hkv
      obtain ⟨zp23, cB, hvB, hB2⟩ := zh F6.out.dv.c
      subst hvB
      obtain ⟨gB, rfl, hgB, hrB, hfB⟩ := hB2 (by omega)
      obtain ⟨gy, oy, rfl, hry⟩ := (HY.out.kf F6.out.fb.sf.kf hbH).at (by omega)
      have cy0 := hry 0 (by omega)
      have cB0 := hrB 0 (by omega)
      rw [Nat.add_zero] at cy0 cB0
      have hp1 : (0 : Int) < (ys.length : Int) := by omega
      have HTS := hide htl
      have hts1 : (0 : Int) < (ts.length : Int) := by omega
      generalize ys.getD 0 0 = x0 at cy0
      generalize ts.getD 0 0 = y0 at cB0
      have bv1 := F6.out.bv.cell 1 rfl
      have bv2 := F6.out.bv.cell 2 rfl
      have bvf := F6.out.bv.fz 2
      clear htl hry hrB
      go_upto_region 17 with fail
      go_region
      generalize wrap64 (o2 + wrap64 (wrap64 (x0 - 1) * y0)) = oo
      have F61 := hide ((F6.out.off oo).drew)
      generalize (W6.setCell ⟨k12, 2, none⟩ (O ι oo)).drew = W61 at F61 ⊢
      clear cB0 cy0 bv1 bv2 bvf hfB
      obtain ⟨_, _, hr61, hf61⟩ := zi2 F61.out.dv.c
      have cB1 := hr61 0 (by omega)
      rw [Nat.add_zero] at cB1
      have fB1 := hf61 0
      generalize ts.getD 0 0 = y1 at cB1
      have bv1 := F61.out.bv.cell 1 rfl
      clear hr61 hf61
      go_upto_region 18 with fail
      go_region
      generalize wrap64 (-y1) = yy
      have F62 := hide ((F61.out.str (j := 0) yy).drew)
      go_wp2
      go_meet
      case rel => exact ⟨ts.set 0 yy, oo, F62.out, fun _ => by simp [HTS.out]⟩
     --END D
   case rest =>
   obtain ⟨ts2, o3, hF7, htl⟩ := hcut
   obtain ⟨W7, rfl⟩ : ∃ W7, W7 = wc := ⟨_, rfl⟩
   have F7 := hide hF7
   clear hF7 F6 HTL hq2
   have HTL := hide htl
   clear htl
   go_upto_region 19 with fail
   go_cut [150] (fun s150 wx => ∃ q : Bool, s150 = .bool q ∧ W7 = wx ∧ (q = true → kv = 2))
   case first =>
    --BEG E
    as_aux_lemma =>
     rcases Classical.em (kv = 2) with hq | hq
     ·have hq1 : (kv == 2) = true := by simpa using hq
      have HQ := hide hq
      clear hq
      rcases (show 2 * N + 2 < cs.length ∨ ¬ 2 * N + 2 < cs.length by omega) with hp | hp
      ·have hp1 : 2 * (N : Int) + 2 < (cs.length : Int) := by omega
       have hp2 : decide (2 * (N : Int) + 2 < (cs.length : Int)) = true := decide_eq_true hp1
       go_wp2
       go_meet
       case rel => exact ⟨_, rfl, rfl, fun h => HQ.out⟩
      ·have hp2 : decide (2 * (N : Int) + 2 < (cs.length : Int)) = false := decide_eq_false (by omega)
       go_wp2
       go_meet
       case rel => exact ⟨_, rfl, rfl, fun h => by simp at h⟩
     ·have hq1 : (kv == 2) = false := by simpa using hq
      go_wp2
      go_meet
      case rel => exact ⟨_, rfl, rfl, fun h => by simp at h⟩
    --END E
   case rest =>
   obtain ⟨q3, rfl, rfl, hq3⟩ := hcut
   go_upto_if 150 with fail
   go_cut [17] (fun _ wx => ∃ (ts3 : List Int), FV w wx H b L0.length (σ (some ⟨g, 0, none⟩) L.length cap) L k12 vA vB zo23 ts3 o3)
   case first =>
    --BEG F
    as_aux_lemma =>
     cases q3 with
     | false =>
      go_wp2
      go_meet
      case rel => exact ⟨ts2, F7.out⟩
     | true =>
      have hkv := hq3 rfl
      have htl := HTL.out (by omega)
      have HTS := hide htl
      clear hq3 hkv htl
      obtain ⟨zp23, cB, hvB, _⟩ := zh F7.out.dv.c
      have HVB := hide hvB
      clear hvB
      generalize hm2 : ts2.length = m2 at HVB HTS
      go_wp2_with fail
      go_loopw [17] (fun i wr => ∃ (k : Nat) (ts3 : List Int), i = O ι k ∧ k ≤ ys.length ∧ ts3.length = ys.length ∧ FV w wr H b L0.length (σ (some ⟨g, 0, none⟩) L.length cap) L k12 vA vB zo23 ts3 o3) (fun i _ => ys.length - (intOf i).toNat)
      case atStart => exact ⟨0, ts2, rfl, by omega, by rw [hm2]; exact HTS.out, F7.out⟩
      case round =>
       obtain ⟨k, ts3, rfl, hk, hl3, hF8⟩ := hrel
       have F8 := hide hF8
       clear hF8 F7 hm2
       have HL3 := hide hl3
       clear hl3
       by_cases hlt : k < ys.length
       ·have hj1 : (k : Int) < (ys.length : Int) := by omega
        have hj0 : (0 : Int) ≤ (k : Int) := Int.natCast_nonneg _
        have hvB := HVB.out
        subst hvB
        clear HVB
        have hsB : ∃ gB, zp23 = some ⟨gB, 0, none⟩ := by
         obtain ⟨s', c', e, q⟩ := zh F8.out.dv.c
         simp only [Value.slice.injEq] at e
         obtain ⟨gB, q1, _⟩ := q (by have := HL3.out; omega)
         exact ⟨gB, e.1.trans q1⟩
        obtain ⟨gB, rfl⟩ := hsB
        obtain ⟨hmm, _, hr8, hf8⟩ := zi2 F8.out.dv.c
        have cB1 := hr8 k (by have := HL3.out; omega)
        rw [Nat.zero_add] at cB1
        have fB1 := hf8 k
        have hm3 : (k : Int) < (m2 : Int) := by have := HL3.out; omega
        generalize ts3.getD k 0 = y1 at cB1
        have bv1 := F8.out.bv.cell 1 rfl
        clear hr8 hf8 hmm
        go_upto_region 23 with fail
        go_region
        generalize wrap64 (2 * y1) = yy
        have F82 := hide ((F8.out.str (j := k) yy).drew)
        go_wp2_with fail
        go_roundw
        ·exact ⟨k + 1, ts3.set k yy, by go_num, by omega, by simp [HL3.out], F82.out⟩
        ·simp [intOf]; omega
       ·have hj1 : decide ((k : Int) < (ys.length : Int)) = false := decide_eq_false (by omega)
        go_wp2
        go_meet
        case rel => exact ⟨ts3, F8.out⟩
    --END F
   case rest =>
   obtain ⟨ts3, hF8⟩ := hcut
   obtain ⟨W8, rfl⟩ : ∃ W8, W8 = wc := ⟨_, rfl⟩
   have F8 := hide hF8
   clear hF8 F7 HTL hq3
   obtain ⟨sA, cA, hvA, _⟩ := zh F8.out.dv.a
   subst hvA
   obtain ⟨zp23, cB, hvB, _⟩ := zh F8.out.dv.c
   subst hvB
   have bv0 := F8.out.bv.cell 0 rfl
   have bv1 := F8.out.bv.cell 1 rfl
   have bv2 := F8.out.bv.cell 2 rfl
   have h8z := F8.out.fb.b9.lt
   have A0 : Hid (FA w (W8.alloc (χ #[O ι st, σ sA zo23.length cA, σ zp23 ts3.length cB, O ι o3] 30)) H b L0.length (σ (some ⟨g, 0, none⟩) L.length cap) L W8.heap.size st (σ sA zo23.length cA) (σ zp23 ts3.length cB) zo23 ts3 o3) :=
    ⟨F8.out.fb.alloc _, Bx.new W8 30 #[O ι st, σ sA zo23.length cA, σ zp23 ts3.length cB, O ι o3] _ rfl, F8.out.dv.bel ((Below.refl W8.heap.size W8).alloc (Nat.le_refl _) _), F8.out.lx, F8.out.ls, by omega⟩
   have b4 := A0.out.fb.b4.cell 0 rfl
   have ba0 := A0.out.bv.cell 0 rfl
   have ba1 := A0.out.bv.cell 1 rfl
   have ba2 := A0.out.bv.cell 2 rfl
   have ba3 := A0.out.bv.cell 3 rfl
   have hzl : zo23.length ≤ 1048576 := by have := A0.out.lx; omega
   have hzt : ts3.length ≤ 1048576 := by have := A0.out.ls; omega
   have G0 := hide (zb6 A0.out.fb.dh.sv A0.out.fb.dg.sl (st : Int) (zy A0.out.dv.a) (zy A0.out.dv.c) o3 hzl hzt)
   go_wp2_with fail
   --BEG X
   refine G0.out.mono ?_
   rintro e W9 ⟨rfl, x9⟩
   have A9 := hide (A0.out.bel x9)
   generalize hk18 : W8.heap.size = k18 at A9 ⊢
   generalize (dcGoodA (ssOf L) (st : Int) zo23 ts3 o3) = qg
   clear b4 ba0 ba1 ba2 ba3 A0 x9 F8 bv0 bv1 bv2 hk18
   go_upto_if 173 with fail
   go_cut [] (fun wx => ∃ (vA vB : Value) (zo23 ts : List Int) (o4 : Int), FA w wx H b L0.length (σ (some ⟨g, 0, none⟩) L.length cap) L k18 st vA vB zo23 ts o4)
   case first =>
    --BEG G
    as_aux_lemma =>
     cases qg with
     | true =>
      go_wp2
      go_meet
      case rel => exact ⟨_, _, _, _, _, A9.out⟩
     | false =>
      go_wp2_with fail
      refine (zt7 0 (HY.out.kf A9.out.fb.sf.kf hbH).ints (by omega)).mono ?_
      rintro e U3 ⟨sa1, sb1, ca1, cb1, xs9, ss9, rfl, hDV, hVI, hB, _⟩
      have A10 := hide (A9.out.bel hB)
      have D10 : Hid (DV U3 (w.heap.size + 3) (σ sa1 xs9.length ca1) (σ sb1 ss9.length cb1) xs9 ss9) := hDV.low (by have := A9.out.fb.b9.lt; omega)
      have hv9 : xs9.length ≤ 4 ∧ ss9.length ≤ 4 := by have := hVI.1.1; have := hVI.2.1; omega
      have e1 := A10.out.bv.cell 1 rfl
      have e2 := A10.out.bv.cell 2 rfl
      have e3 := A10.out.bv.cell 3 rfl
      have ef := fun o => A10.out.bv.fz o
      clear hDV hVI hB A9
      go_wp2
      go_meet
      case rel => exact ⟨_, _, _, _, _, A10.out.lay D10.out hv9.1 hv9.2⟩
    --END G
   case rest =>
   obtain ⟨vA, vB, zs4, ts4, o4, hA⟩ := hcut
   obtain ⟨Wb, rfl⟩ : ∃ Wb, Wb = wc := ⟨_, rfl⟩
   have HA := hide hA
   clear hA A9
   obtain ⟨sA4, cA4, hvA, _⟩ := zh HA.out.dv.a
   subst hvA
   obtain ⟨sB4, cB4, hvB, _⟩ := zh HA.out.dv.c
   subst hvB
   have b4 := HA.out.fb.b4.cell 0 rfl
   have ba0 := HA.out.bv.cell 0 rfl
   have ba1 := HA.out.bv.cell 1 rfl
   have ba2 := HA.out.bv.cell 2 rfl
   have ba3 := HA.out.bv.cell 3 rfl
   have b80 := HA.out.fb.b8.cell 0 rfl
   have b8f := HA.out.fb.b8.fz 0
   have b90 := HA.out.fb.b9.cell 0 rfl
   have b91 := HA.out.fb.b9.cell 1 rfl
   have b92 := HA.out.fb.b9.cell 2 rfl
   have b93 := HA.out.fb.b9.cell 3 rfl
   have b9f := fun o => HA.out.fb.b9.fz o
   have hkk := HA.out.hk
   go_upto_region 27 with fail
   go_region
   obtain ⟨z1, z2, z3⟩ := HA.out.fin
   have HZ1 := hide z1
   have HZ2 := hide z2
   have HZ3 := hide z3
   clear z1 z2 z3
   go_wp2
   refine bodyPost_ret (v := .tuple #[γ #[σ (some ⟨g, 0, none⟩) L.length cap], γ #[O ι st, σ sA4 zs4.length cA4, σ sB4 ts4.length cB4, O ι o4]]) (by simp [results, Tryz.results48, go_sem, b80, b90, b91, b92, b93]) rfl ⟨_, L, _, _, zs4, ts4, o4, rfl, HZ1.out, HA.out.fb.dg, HA.out.fb.dt, HLL.out, HZ2.out, HA.out.lx, HA.out.ls, HZ3.out⟩
   --END X
end
end Go.Proofs.YtjbbodfdpbcnhaaGreat
