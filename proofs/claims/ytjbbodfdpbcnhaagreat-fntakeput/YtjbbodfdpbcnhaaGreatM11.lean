import Derived.Test.YtjbbodfdpbcnhaaGreatM9
import Derived.Test.YtjbbodfdpbcnhaaGreatM1
import Derived.Test.YtjbbodfdpbcnhaaGreatM10
import Derived.Deep.DeepCutAuto
import Derived.Test.YtjbbodfdpbcnhaaGreatM5
set_option linter.unusedSimpArgs false
set_option linter.unusedVariables false
set_option maxRecDepth 100000
set_option maxHeartbeats 8000000
namespace Go.Proofs.YtjbbodfdpbcnhaaGreat
open List renaming setIfInBounds_toArray → sT, set_cons_zero → sZ, set_cons_succ → sS
open Go.Value renaming int → O, slice → σ, pointer → π, agg → γ
open Go.IntKind renaming i64 → ι
open Go.Obj renaming cells → χ
open Go.Act renaming put → aP
section
open Go.ChangeShapes Go.RowKit FL
theorem zi11 {w : World} {H b n : Nat} (hs : SF w w H b) (hn : n ≤ 3) :
  Calls Tryz.prog 45 #[π (some ⟨b, 0, none⟩), O ι n] w fun e W => ∃ (sv : Value) (L : List Dst), e = .returned (γ #[sv]) ∧ DH W H sv L ∧ DG L ∧ DtOk L ∧ L.length = n ∧ SF w W H b := by
 obtain ⟨i0, hi0, hz0, hz1, hz2⟩ := info_parts zy10
 obtain ⟨i6, hi6, hx0, hx1, hx2⟩ := info_parts zk4
 have hbH := hs.hb
 have hHw := hs.hH
 have S0 : Hid (SF w ((w.alloc (χ #[σ none 0 0] 25)).alloc (χ #[σ none 0 0] 25)) H b) := (hs.alloc _).alloc _
 have B0 : Hid (Bx ((w.alloc (χ #[σ none 0 0] 25)).alloc (χ #[σ none 0 0] 25)) w.heap.size 25 [σ none 0 0]) := (Bx.new w 25 #[σ none 0 0] _ rfl).alloc _
 have B1 : Hid (Bx ((w.alloc (χ #[σ none 0 0] 25)).alloc (χ #[σ none 0 0] 25)) (w.heap.size + 1) 25 [σ none 0 0]) := Bx.new (w.alloc (χ #[σ none 0 0] 25)) 25 #[σ none 0 0] _ (by simp)
 clear hs
 go_enter Tryz.func45, Tryz.ntmps45
 go_wp2_with fail
 generalize (w.alloc (χ #[σ none 0 0] 25)).alloc (χ #[σ none 0 0] 25) = W0 at S0 B0 B1 ⊢
 go_loopw [6] (fun i wr => ∃ (k : Nat) (sv : Value) (L : List Dst), i = O ι k ∧ k ≤ n ∧ L.length = k ∧ SF w wr H b ∧ DH wr H sv L ∧ DG L ∧ DtOk L ∧ Bx wr w.heap.size 25 [σ none 0 0] ∧ Bx wr (w.heap.size + 1) 25 [sv]) (fun i _ => n - (intOf i).toNat)
 case atStart => exact ⟨0, _, [], rfl, by omega, rfl, S0.out, DH.nil _ _, DG.nil, (fun t h => by simp at h), B0.out, B1.out⟩
 case round =>
  obtain ⟨k, sv, L, rfl, hk, hL, hS, hD, hG, hO, hb0, hb1⟩ := hrel
  obtain ⟨wo, rfl⟩ : ∃ wo, wo = wr := ⟨_, rfl⟩
  subst hL
  have HS := hide hS
  have HD := hide hD
  have HG := hide hG
  have HO := hide hO
  have HB0 := hide hb0
  have HB1 := hide hb1
  clear hS hD hG hO hb0 S0 B0 B1
  by_cases hlt : L.length < n
  ·have hk1 : (L.length : Int) < (n : Int) := by omega
   go_wp2_with fail
   refine (HS.out.dtype).mono ?_
   rintro e W1 ⟨dt, rfl, hdt, s1, m1⟩
   have hKS := HS.out.sz
   obtain ⟨z, cz, hz1', hz7⟩ := (s1.alloc (χ #[O ι dt, σ none 0 0] 41)).src.size
   have S1 := hide (s1.alloc (χ #[O ι dt, σ none 0 0] 41))
   have GB1 : Hid (wo.grownBy (W1.alloc (χ #[O ι dt, σ none 0 0] 41)) (some b)) := grown_alz (zy3 m1) _
   have hsz1 := m1.size
   have BS1 : Hid (Bx (W1.alloc (χ #[O ι dt, σ none 0 0] 41)) W1.heap.size 41 [O ι dt, σ none 0 0]) := Bx.new W1 41 #[O ι dt, σ none 0 0] _ rfl
   have CZ := hide cz
   clear s1 m1
   go_wp2_with fail
   generalize W1.alloc (χ #[O ι dt, σ none 0 0] 41) = W2 at S1 GB1 BS1 cz CZ ⊢
   generalize hKSe : W1.heap.size = KS at BS1 hsz1 ⊢
   clear hKSe cz
   refine (S1.out.next _).mono ?_
   rintro e W3 ⟨nv, rfl, ⟨hn0, hn1, _⟩, s3, m3⟩
   have hn2 := hn1 (by omega)
   obtain ⟨m, hm⟩ : ∃ m : Nat, nv = (m : Int) := ⟨nv.toNat, by omega⟩
   subst hm
   have S3 := hide s3
   have GB3 := hide (zf6 GB1.out (zy3 m3))
   have BS3 : Hid (Bx W3 KS 41 [O ι dt, σ none 0 0]) := BS1.out.mut m3 (by omega)
   clear s3 m3 S1 GB1 BS1 hn1 CZ
   go_wp2_with fail
   go_loopw [9] (fun i wv => ∃ (j : Nat) (v : Value) (cs : List C3), i = O ι j ∧ j ≤ 6 + m ∧ cs.length = j ∧ CG cs ∧ SF w wv H b ∧ wo.grownBy wv (some b) ∧ Bx wv KS 41 [O ι dt, v] ∧ wv.ownsRow wo.heap.size 47 3 v j (flat cs)) (fun i _ => 6 + m - (intOf i).toNat)
   case atStart => exact ⟨0, _, [], rfl, by omega, rfl, (fun c h => by simp at h), S3.out, GB3.out, BS3.out, World.ownsRow_nil _ _ _ _⟩
   case round =>
    obtain ⟨j, v, cs, rfl, hj, hcl, hcg, hSv, hGv, bS, hOw⟩ := hrel
    obtain ⟨wv, rfl⟩ : ∃ wv, wv = wr := ⟨_, rfl⟩
    have HSv := hide hSv
    have HGB := hide hGv
    have BS := hide bS
    have HOW := hide hOw
    have HCG := hide hcg
    clear hSv hGv hOw S3 GB3 BS3 hcg
    by_cases hjl : j < 6 + m
    ·have hj1 : (j : Int) < 6 + (m : Int) := by omega
     go_wp2_with fail
     have SA : Hid ((fun w' : World => w'.cell? ⟨KS, 1, none⟩ = some v ∧ w'.cell? ⟨KS, 0, none⟩ = some (O ι dt)) wv.drew) := ⟨bS.cell 1 rfl, bS.cell 0 rfl⟩
     refine zv (S := (fun w' : World => w'.cell? ⟨KS, 1, none⟩ = some v ∧ w'.cell? ⟨KS, 0, none⟩ = some (O ι dt))) (late := [9]) (by kernel_rfl) ?_
     refine zd (i := 0) (v := π (some ⟨KS, 1, none⟩)) rfl (by kernel_rfl) (by kernel_rfl) (fun _ _ _ h => by cases h.1) _ (by kernel_rfl) (by kernel_rfl) (Or.inl ⟨by rfl, ?_⟩) SA.out ?_
     ·rintro w' ⟨z0, z1⟩
      go_simp
     simp only [aP, sT, sZ, sS]
     refine zd (i := 1) (v := v) rfl (by kernel_rfl) (by kernel_rfl) (fun _ _ _ h => by cases h.1) _ (by kernel_rfl) (by kernel_rfl) (Or.inl ⟨by rfl, ?_⟩) SA.out ?_
     ·rintro w' ⟨z0, z1⟩
      go_simp
     simp only [aP, sT, sZ, sS]
     refine zd (i := 2) (v := π (some ⟨b, 0, none⟩)) rfl (by kernel_rfl) (by kernel_rfl) (fun _ _ _ h => by cases h.1) _ (by kernel_rfl) (by kernel_rfl) (Or.inl ⟨by rfl, ?_⟩) SA.out ?_
     ·rintro w' ⟨z0, z1⟩
      go_simp
     simp only [aP, sT, sZ, sS]
     refine zd (i := 3) (v := π (some ⟨KS, 0, none⟩)) rfl (by kernel_rfl) (by kernel_rfl) (fun _ _ _ h => by cases h.1) _ (by kernel_rfl) (by kernel_rfl) (Or.inl ⟨by rfl, ?_⟩) SA.out ?_
     ·rintro w' ⟨z0, z1⟩
      go_simp
     simp only [aP, sT, sZ, sS]
     refine zd (i := 4) (v := O ι dt) rfl (by kernel_rfl) (by kernel_rfl) (fun _ _ _ h => by cases h.1) _ (by kernel_rfl) (by kernel_rfl) (Or.inl ⟨by rfl, ?_⟩) SA.out ?_
     ·rintro w' ⟨z0, z1⟩
      go_simp
     simp only [aP, sT, sZ, sS]
     refine ze (i := 5) (by kernel_rfl) rfl (fun K hK => ?_)
     go_simp
     refine ((HSv.out.drew).cell hdt).mono ?_
     rintro e t1 ⟨X, Y, Z, rfl, hok, s5, m5⟩
     have bS1 : Bx t1 KS 41 [O ι dt, v] := (BS.out.drew).mut m5 (by omega)
     have BS1 := hide bS1
     have HS5 := hide s5
     have HM5 := hide m5
     have S1 : Hid ((fun w' : World => w'.cell? ⟨KS, 1, none⟩ = some v ∧ w'.cell? ⟨KS, 0, none⟩ = some (O ι dt)) t1) := ⟨BS1.out.cell 1 rfl, BS1.out.cell 0 rfl⟩
     refine hK.out _ _ (fun _ => S1.out) ?_
     clear hK K
     try simp only [aP, sT, sZ, sS]
     clear s5 m5 bS1
     refine ze (i := 6) (by kernel_rfl) rfl (fun K hK => ?_)
     go_simp
     have BS2 : Hid (Bx (t1.alloc (χ #[O ι X, .float .f64 Y, .float .f64 Z] 47)) KS 41 [O ι dt, v]) := BS1.out.alloc _
     have S2 : Hid ((fun w' : World => w'.cell? ⟨KS, 1, none⟩ = some v ∧ w'.cell? ⟨KS, 0, none⟩ = some (O ι dt)) (t1.alloc (χ #[O ι X, .float .f64 Y, .float .f64 Z] 47))) := ⟨BS2.out.cell 1 rfl, BS2.out.cell 0 rfl⟩
     refine hK.out _ _ (fun _ => S2.out) ?_
     clear hK K
     try simp only [aP, sT, sZ, sS]
     have HNW : Hid (∀ q u, (c3v (X, Y, Z))[q]? = some u → (t1.alloc (χ #[O ι X, .float .f64 Y, .float .f64 Z] 47)).cell? ((⟨t1.heap.size, 0, none⟩ : Addr).add q) = some u) := fun q u hq => by
      rw [Addr.add_lit, Nat.zero_add, zg t1 _ 47 _ rfl q]
      simpa [c3v] using hq
     have hszt : wo.heap.size ≤ t1.heap.size := by have := HM5.out.size; have := HGB.out.size; have : wv.drew.heap.size = wv.heap.size := rfl; omega
     have OW1 : Hid (t1.ownsRow wo.heap.size 47 3 v j (flat cs)) := zn9 (HOW.out.drew) HM5.out (fun e => by have := (HOW.out.lt b e).1; omega)
     refine ze (i := 7) (by kernel_rfl) rfl (fun K hK => ?_)
     refine step_append_lies _ (by rfl) (.tmp 34) (.tmp 39) 39 (by rfl) wo.heap.size 47 i6 (γ #[O ι 0, .float .f64 0, .float .f64 0]) 3 24 Tryz.underlying39 hi6 hx0 hx1 hx2 rfl (by decide) v j (flat cs) (by rfl) (OW1.out.alloc _) ⟨t1.heap.size, 0, none⟩ 1 1 (c3v (X, Y, Z)) (by rfl) (by rfl) HNW.out (zp3 _) (by omega) (by unfold maxLen; omega) (by omega) (by simp; omega) (t1.heap.size + 1) (by simp) ?_
     intro g5 cap5 w5 hown5 hgrow5 hat5 hlt5
     have bS5 : Bx w5 KS 41 [O ι dt, v] := BS2.out.gb hgrow5 (BS2.out.ne (OW1.out.alloc _) (by decide))
     have BS5 := hide bS5
     have SF5 : Hid (SF w w5 H b) := (HS5.out.alloc _).new hgrow5 (fun k hk => by have := (OW1.out.lt k hk).1; have := HGB.out.size; omega)
     have GB5 : Hid (wo.grownBy w5 (some b)) := zg14 (grown_alz (zf6 (zb17 HGB.out) (zy3 HM5.out)) _) hgrow5 (fun k hk => (OW1.out.lt k hk).1)
     have OW5 := hide hown5
     have S3 : Hid ((fun w' : World => w'.cell? ⟨KS, 1, none⟩ = some v ∧ w'.cell? ⟨KS, 0, none⟩ = some (O ι dt)) w5) := ⟨BS5.out.cell 1 rfl, BS5.out.cell 0 rfl⟩
     refine hK.out _ _ (fun _ => S3.out) ?_
     clear hK K
     try simp only [aP, sT, sZ, sS]
     have f51 := BS5.out.fz 1
     have c51 := BS5.out.cell 1 rfl
     clear hown5 hgrow5 hat5 hlt5 bS5
     refine zd (i := 8) (v := π (some ⟨KS, 1, none⟩)) rfl (by kernel_rfl) (by kernel_rfl) (fun _ _ _ h => by cases h.1) _ (by kernel_rfl) (by kernel_rfl) (Or.inl ⟨by rfl, ?_⟩) S3.out ?_
     ·rintro w' ⟨z0, z1⟩
      go_simp
     simp only [aP, sT, sZ, sS]
     refine ze (i := 9) (by kernel_rfl) rfl (fun K hK => ?_)
     go_simp
     refine hK.out _ _ (fun h => absurd h (by decide)) ?_
     clear hK K
     try simp only [aP, sT, sZ, sS]
     refine zm (by kernel_rfl) ?_ _
     refine ⟨rfl, ?_⟩
     clear SA S1 S2 S3
     go_wp2_with fail
     go_roundw
     ·refine ⟨j + 1, _, cs ++ [(X, Y, Z)], by go_num, by omega, by simp [hcl], HCG.out.app hok, SF5.out.set (by omega) _ _, zg14 GB5.out (zh1 _ _ _ _) (fun k e => by injection e with e; omega), BS5.out.set 1 _, ?_⟩
      rw [zw2]
      exact zu OW5.out (fun e => (BS5.out.ne OW5.out (by decide)) e.symm)
     ·simp [intOf]; omega
    ·have hjj : j = 6 + m := by omega
     have hd : decide ((j : Int) < 6 + (m : Int)) = false := decide_eq_false (by omega)
     have bS1 := bS.cell 1 rfl
     have bS0 := bS.cell 0 rfl
     have bh : Bx wv (w.heap.size + 1) 25 [sv] := HB1.out.gb HGB.out (fun e => by injection e with e; omega)
     have BH := hide bh
     have bhc := bh.cell 0 rfl
     have HD2 : Hid (DH wv H sv L) := HD.out.keep HGB.out (fun k e => by injection e with e; omega)
     clear bS bh
     have Hnew : Hid (∀ q x, ([O ι dt, v] : List Value)[q]? = some x → (wv.alloc (χ #[O ι dt, v] 41)).cell? ((⟨wv.heap.size, 0, none⟩ : Addr).add q) = some x) := fun q x hq => by
      rw [Addr.add_lit, Nat.zero_add, zg wv _ 41 _ rfl q]
      simpa using hq
     have hLL : (L.length : Int) ≤ 3 := by omega
     have hvo : v.oneCell' = true := by
      rcases HOW.out.2 with ⟨rfl, _⟩ | ⟨_, _, _, rfl, _⟩ <;> rfl
     have HNO : Hid (∀ u ∈ ([O ι dt, v] : List Value), u.oneCell' = true) := fun u hu => by
      simp at hu
      rcases hu with rfl | rfl
      ·rfl
      ·exact hvo
     have BHa : Hid (Bx (wv.alloc (χ #[O ι dt, v] 41)) (w.heap.size + 1) 25 [sv]) := BH.out.alloc _
     have HNE : Hid (some (w.heap.size + 1) ≠ sv.ownBlock) := BHa.out.ne (HD2.out.own.alloc _) (by decide)
     have HNE0 : Hid (some w.heap.size ≠ sv.ownBlock) := (((HB0.out.gb HGB.out (fun e => by injection e with e; omega)).alloc (χ #[O ι dt, v] 41))).ne (HD2.out.own.alloc _) (by decide)
     have hszv : w.heap.size + 2 ≤ wv.heap.size := by have := BH.out.lt; omega
     go_wp2_with (at_builtin; go_loud ((refine wpList_append_lies _ rfl _ _ 23 rfl H 41 i0 (γ #[O ι 0, σ none 0 0]) 2 32 Tryz.underlying23 hi0 hz0 hz1 hz2 rfl (by decide) sv L.length (flatD L) rfl (HD2.out.own.alloc _) ⟨wv.heap.size, 0, none⟩ 1 1 [O ι dt, v] rfl rfl Hnew.out HNO.out (by omega) (by unfold maxLen; omega) (by omega) (by simp; omega) (wv.heap.size + 1) (by simp) ?_); intro g9 c9 w9 hown9 hgrow9 hat9 hlt9; have HO9 := hide hown9; have HG9 := hide hgrow9; have bh9 : Hid (Bx w9 (w.heap.size + 1) 25 [sv]) := BHa.out.gb hgrow9 HNE.out; have ch9 := bh9.out.cell 0 rfl; have fh9 := bh9.out.fz 0; clear hown9 hgrow9 hat9 hlt9))
     have HDN : Hid (DH w9 H (σ (some ⟨g9, 0, none⟩) (L.length + 1) c9) (L ++ [(dt, v, cs)])) := HD.out.app (w' := wv.alloc (χ #[O ι dt, v] 41)) (grown_alz HGB.out _) (fun k e => by injection e with e; omega) (by rw [hcl]; exact HOW.out.alloc _) (by omega) HO9.out HG9.out
     have HSN : Hid (SF w w9 H b) := (HSv.out.alloc (χ #[O ι dt, v] 41)).row HG9.out (HD2.out.own.alloc _) (Nat.le_refl _) (Or.inl rfl)
     have HB09 : Hid (Bx w9 w.heap.size 25 [σ none 0 0]) := (((HB0.out.gb HGB.out (fun e => by injection e with e; omega)).alloc (χ #[O ι dt, v] 41)).gb HG9.out HNE0.out)
     go_wp2_with fail
     go_roundw
     ·refine ⟨L.length + 1, _, L ++ [(dt, v, cs)], by go_num, by omega, by simp, HSN.out.set (by omega) _ _, HDN.out.box bh9.out (by decide) (by decide), HG.out.app HCG.out (by omega) (by omega), HO.out.app hdt, HB09.out.far (by omega) _, bh9.out.set 0 _⟩
     ·simp [intOf]; omega
  ·have hkn : L.length = n := by omega
   subst hkn
   have hd : decide ((L.length : Int) < (L.length : Int)) = false := decide_eq_false (by omega)
   have c0 := HB0.out.cell 0 rfl
   have f0 := HB0.out.fz 0
   have c1 := hb1.cell 0 rfl
   obtain ⟨sa, cp, rfl⟩ := HD.out.form
   go_wp2
   refine bodyPost_ret (v := γ #[σ sa L.length cp]) (by simp [results, Tryz.results45, go_sem, c0]) rfl ⟨_, L, rfl, HD.out.box HB0.out (by decide) (by decide), HG.out, HO.out, by omega, HS.out.set (Nat.le_refl _) _ _⟩
end
section
open Go.RowKit Go.ChangeShapes
theorem ze3 {w : World} {v vS vT : Value} {ss : List St} (h : SV w v ss) (st off : Int) (h0 : 0 ≤ st) (h1 : st < ss.length) :
  Calls Tryz.prog 38 #[γ #[v], γ #[O ι st, vS, vT, O ι off]] w fun e w' => e = .returned (O ι (ss.getD st.toNat s0).1) ∧ Ext w w' := by
 obtain ⟨k, rfl⟩ : ∃ k : Nat, st = k := ⟨st.toNat, by omega⟩
 have hk : k < ss.length := by omega
 obtain ⟨sa, cap, rfl, h | ⟨b, o, rfl, hr⟩⟩ := h
 ·rw [h] at hk; simp at hk
 have q0 := (hr k hk).1
 rw [Int.toNat_natCast]
 generalize (ss.getD k s0).1 = d at q0 ⊢
 have x1 : Ext w (w.alloc (χ #[σ (some ⟨b, o, none⟩) ss.length cap] 25)) := (Ext.refl w).alloc _ _
 have x2 := x1.alloc #[O ι k, vS, vT, O ι off] 30
 have q1 := x2.box q0
 have X2 := hide x2
 clear x1 x2 hr
 go_enter Tryz.func38, Tryz.ntmps38
 go_wp2
 go_ret
 exact ⟨rfl, X2.out⟩
end
section
open Go.ChangeShapes Go.RowKit FL
abbrev Bo := Nat × TypeId × List Value
structure PBx (w W : World) (H b : Nat) (sv : Value) (L : List Dst) (bs : List Bo) : Prop where
 sx : SX W H b
 hH : H ≤ w.heap.size
 os : W.os = w.os
 tape : W.tape = w.tape
 output : W.output = w.output
 size : w.heap.size ≤ W.heap.size
 kb : ∀ k, k < H → k ≠ b → W.heap[k]? = w.heap[k]?
 dh : DH W H sv L
 dg : DG L
 bx : ∀ (i : Nat) (q : Bo), bs[i]? = some q → Bx W q.1 q.2.1 q.2.2 ∧ H ≤ q.1 ∧ (q.2.1 = 25 ∨ q.2.1 = 30)
 ne : ∀ (i j : Nat) (q r : Bo), bs[i]? = some q → bs[j]? = some r → i ≠ j → q.1 ≠ r.1
section
variable {w W W' : World} {H b : Nat} {sv : Value} {L : List Dst} {bs : List Bo}
theorem zd23 {t : TypeId} (h : t = 25 ∨ t = 30) : t ≠ 41 ∧ t ≠ 47 ∧ t ≠ 2 := by rcases h with rfl | rfl <;> decide
theorem PBx.sf (h : PBx w W H b sv L bs) : SF W W H b := SF.start h.sx (Nat.le_trans h.hH h.size)
theorem PBx.kf (h : PBx w W H b sv L bs) (k : KF H b W W') (s : SX W' H b) {sv' : Value} {L' : List Dst} (d : DH W' H sv' L') (g : DG L') : PBx w W' H b sv' L' bs := by
 have hb := h.sx.hb
 refine ⟨s, h.hH, k.os.trans h.os, k.tape.trans h.tape, k.output.trans h.output, Nat.le_trans h.size k.size, fun j hj hn => (k.blk j (by have := h.size; have := h.hH; omega) hn (Or.inl hj)).trans (h.kb j hj hn), d, g, fun i q hq => ?_, h.ne⟩
 obtain ⟨h1, h2, h3⟩ := h.bx i q hq
 exact ⟨h1.kf k (by omega) (zd23 h3).1 (zd23 h3).2.1, h2, h3⟩
theorem PBx.gb (h : PBx w W H b sv L bs) (x : W.grownBy W' (some b)) (s : SX W' H b) : PBx w W' H b sv L bs :=
 h.kf ⟨x.os, x.tape, x.output, x.size, fun k hk hn _ => x.block k hk (fun e => hn (by injection e))⟩ s (h.dh.keep x (fun j e => by injection e with e; have := h.sx.hb; omega)) h.dg
theorem PBx.mut (h : PBx w W H b sv L bs) (s : SX W' H b) (m : Mut b W W') : PBx w W' H b sv L bs := h.gb (zy3 m) s
theorem PBx.bel (h : PBx w W H b sv L bs) (x : Bel W W') : PBx w W' H b sv L bs := h.kf (KF.bel x) (h.sx.keep fun k hk => Below.block x k (by have := h.size; have := h.hH; omega)) (h.dh.bel x) h.dg
theorem PBx.drew (h : PBx w W H b sv L bs) : PBx w W.drew H b sv L bs := h.bel (zz W)
theorem PBx.kx (h : PBx w W H b sv L bs) {vA vB : Value} {nA nB : Nat} {lA lB : List Value} (k : KX H b vA vB W W') (rA : W.ownsRow H 2 1 vA nA lA) (rB : W.ownsRow H 2 1 vB nB lB) (s : SX W' H b) {sv' : Value} {L' : List Dst} (d : DH W' H sv' L') (g : DG L') : PBx w W' H b sv' L' bs := by
 have hb := h.sx.hb
 refine ⟨s, h.hH, k.os.trans h.os, k.tape.trans h.tape, k.output.trans h.output, Nat.le_trans h.size k.size, fun j hj hn => (k.blk j (by have := h.size; have := h.hH; omega) hn (fun e => by have := (rA.lt j e).1; omega) (fun e => by have := (rB.lt j e).1; omega) (Or.inl hj)).trans (h.kb j hj hn), d, g, fun i q hq => ?_, h.ne⟩
 obtain ⟨h1, h2, h3⟩ := h.bx i q hq
 exact ⟨h1.keep (k.blk q.1 h1.lt (by omega) (Ne.symm (h1.ne rA (zd23 h3).2.2)) (Ne.symm (h1.ne rB (zd23 h3).2.2)) (Or.inr (h1.nk (zd23 h3).1 (zd23 h3).2.1))), h2, h3⟩
theorem PBx.alloc (h : PBx w W H b sv L bs) (o : Obj) : PBx w (W.alloc o) H b sv L bs := h.bel ((Below.refl W.heap.size W).alloc (Nat.le_refl _) o)
theorem PBx.new (h : PBx w W H b sv L bs) (cs : Array Value) (t : TypeId) (ht : t = 25 ∨ t = 30) : PBx w (W.alloc (χ cs t)) H b sv L (bs ++ [(W.heap.size, t, cs.toList)]) := by
 have ha := h.alloc (χ cs t)
 have hs := h.size
 have hh := h.hH
 have last : ∀ (i : Nat) (q : Bo), (bs ++ [(W.heap.size, t, cs.toList)])[i]? = some q → (bs[i]? = some q) ∨ (q = (W.heap.size, t, cs.toList) ∧ i = bs.length) := fun i q hq => by
  rw [List.getElem?_append] at hq
  split at hq
  ·exact Or.inl hq
  ·cases hi : i - bs.length with
   | zero => rw [hi] at hq; simp at hq; exact Or.inr ⟨hq.symm, by omega⟩
   | succ m => rw [hi] at hq; simp at hq
 refine ⟨ha.sx, ha.hH, ha.os, ha.tape, ha.output, ha.size, ha.kb, ha.dh, ha.dg, fun i q hq => ?_, fun i j q r hq hr hij => ?_⟩
 ·rcases last i q hq with h1 | ⟨rfl, _⟩
  ·exact ha.bx i q h1
  ·exact ⟨Bx.new W t cs _ rfl, by omega, ht⟩
 ·rcases last i q hq with h1 | ⟨rfl, e1⟩ <;> rcases last j r hr with h2 | ⟨rfl, e2⟩
  ·exact h.ne i j q r h1 h2 hij
  ·have := (h.bx i q h1).1.lt
   show q.1 ≠ W.heap.size
   omega
  ·have := (h.bx j r h2).1.lt
   show W.heap.size ≠ r.1
   omega
  ·omega
theorem PBx.set (h : PBx w W H b sv L bs) (i : Nat) {k : Nat} {t : TypeId} {vs : List Value} (hi : bs[i]? = some (k, t, vs)) (o : Nat) (u : Value) : PBx w (W.setCell ⟨k, o, none⟩ u) H b sv L (bs.set i (k, t, vs.set o u)) := by
 obtain ⟨h1, h2, h3⟩ := h.bx i _ hi
 simp only at h1 h2 h3
 have gs : ∀ (j : Nat) (q : Bo), (bs.set i (k, t, vs.set o u))[j]? = some q → (i = j ∧ q = (k, t, vs.set o u)) ∨ (i ≠ j ∧ bs[j]? = some q) := fun j q hq => by
  rw [List.getElem?_set] at hq
  split at hq
  ·next e =>
   split at hq
   ·simp at hq; exact Or.inl ⟨e, hq.symm⟩
   ·simp at hq
  ·next e => exact Or.inr ⟨e, hq⟩
 refine ⟨h.sx.set h2 o u, h.hH, h.os, h.tape, h.output, by simpa [World.setCell] using h.size, fun j hj hn => (Below.heap_setCell _ _ _ _ (show j ≠ k by omega)).trans (h.kb j hj hn), h.dh.box h1 (zd23 h3).1 (zd23 h3).2.1, h.dg, fun j q hq => ?_, fun j l q r hq hr hjl => ?_⟩
 ·rcases gs j q hq with ⟨_, rfl⟩ | ⟨e, q1⟩
  ·exact ⟨h1.set o u, h2, h3⟩
  ·obtain ⟨a1, a2, a3⟩ := h.bx j q q1
   exact ⟨a1.far (h.ne j i q _ q1 hi (Ne.symm e)) u, a2, a3⟩
 ·rcases gs j q hq with ⟨e1, rfl⟩ | ⟨e1, q1⟩ <;> rcases gs l r hr with ⟨e2, rfl⟩ | ⟨e2, q2⟩
  ·omega
  ·exact h.ne i l (k, t, vs) r hi q2 e2
  ·exact h.ne j i q (k, t, vs) q1 hi (Ne.symm e1)
  ·exact h.ne j l q r q1 q2 hjl
end
theorem DV.box {w : World} {H k o : Nat} {t : TypeId} {vs : List Value} {u vA vB : Value} {xs ss : List Int} (h : DV w H vA vB xs ss) (x : Bx w k t vs) (ht : t ≠ 2) : DV (w.setCell ⟨k, o, none⟩ u) H vA vB xs ss :=
 ⟨zu h.a (Ne.symm (x.ne h.a ht)), zu h.c (Ne.symm (x.ne h.c ht)), h.dj⟩
end
section
open Go.ChangeShapes Go.RowKit FL
section
variable {P : Program} {ops : Array Oper} {Q : Exit → Act → World → Prop} {md : Region.Mode} {S T : World → Prop} {late : List Nat}
theorem zr1 {rs : List Nat} {f : Nat} {l : Array Bool} {a : Act} {w : World} (hr : Region.ready md ops l = rs) (hne : rs ≠ [])
  (h : ∀ i ∈ rs, ∃ o, ops[i]? = some o ∧ ∀ K' : Act → World → Prop, Shut (∀ a w, T w → (early late (l.setIfInBounds i true) = true → S w) → wpAnyV P md ops Q S T late f (l.setIfInBounds i true) a w → K' a w) → if Region.wanted o (yielded ops a.tmps) = true then Oper.wp P o a w K' Q else K' (a.put o.dst undef) w) :
  wpAnyV P md ops Q S T late (f + 1) l a w := by
 refine ⟨fun h0 => absurd (hr ▸ h0) hne, fun j hj => ?_⟩
 rw [hr] at hj
 obtain ⟨o, ho, hK⟩ := h j hj
 exact wpOp_step ho (fun K' hK' => hK K' (fun a w h1 h2 h3 => hK' a w ⟨⟨h1, h2⟩, h3⟩))
end
structure AD (W : World) (lo : Nat) (vA vB : Value) (xs ss : List Int) : Prop where
 dv : DV W lo vA vB xs ss
 lx : xs.length ≤ 4
 ls : ss.length ≤ 4
theorem AD.form {W : World} {lo : Nat} {vA vB : Value} {xs ss : List Int} (h : AD W lo vA vB xs ss) : ∃ sA cA zp23 cB, vA = σ sA xs.length cA ∧ vB = σ zp23 ss.length cB := by
 obtain ⟨sA, cA, e1, _⟩ := zh h.dv.a
 obtain ⟨zp23, cB, e2, _⟩ := zh h.dv.c
 exact ⟨sA, cA, zp23, cB, e1, e2⟩
theorem AD.kf {w W : World} {H b lo : Nat} {vA vB : Value} {xs ss : List Int} (h : AD w lo vA vB xs ss) (x : KF H b w W) (hb : b < lo) : AD W lo vA vB xs ss := ⟨h.dv.kf x hb, h.lx, h.ls⟩
theorem AD.bel {w W : World} {lo : Nat} {vA vB : Value} {xs ss : List Int} (h : AD w lo vA vB xs ss) (x : Bel w W) : AD W lo vA vB xs ss := ⟨h.dv.bel x, h.lx, h.ls⟩
theorem AD.mut {w W : World} {b lo : Nat} {vA vB : Value} {xs ss : List Int} (h : AD w lo vA vB xs ss) (m : Mut b w W) (hb : b < lo) : AD W lo vA vB xs ss := ⟨h.dv.mut m hb, h.lx, h.ls⟩
theorem AD.box {w : World} {lo k o : Nat} {t : TypeId} {vs : List Value} {u vA vB : Value} {xs ss : List Int} (h : AD w lo vA vB xs ss) (x : Bx w k t vs) (ht : t ≠ 2) : AD (w.setCell ⟨k, o, none⟩ u) lo vA vB xs ss := ⟨h.dv.box x ht, h.lx, h.ls⟩
theorem AD.low {w : World} {lo lo' : Nat} {vA vB : Value} {xs ss : List Int} (h : AD w lo vA vB xs ss) (hl : lo' ≤ lo) : AD w lo' vA vB xs ss := ⟨h.dv.low hl, h.lx, h.ls⟩
def IJ (w : World) (H : Nat) (v : Value) (xs : List Int) : Prop := ∃ sa cap, v = σ sa xs.length cap ∧ (xs = [] ∨ ∃ g off, sa = some ⟨g, off, none⟩ ∧ Row w g off xs ∧ H ≤ g ∧ ∃ c f, w.heap[g]? = some (χ c 2 f))
theorem IJ.ik {w : World} {H : Nat} {v : Value} {xs : List Int} (h : IJ w H v xs) : IK w H v xs := by
 obtain ⟨sa, cap, h1, h2⟩ := h
 refine ⟨sa, cap, h1, h2.imp id fun ⟨g, off, a, b, c, d⟩ => ⟨g, off, a, b, c, ?_⟩⟩
 obtain ⟨cc, f, e⟩ := d
 intro c' t' f' e'
 rw [e] at e'
 simp at e'
 rw [← e'.2.1]
 exact ⟨by decide, by decide⟩
theorem IJ.keep {w W : World} {H : Nat} {v : Value} {xs : List Int} (h : IJ w H v xs) (x : ∀ g c f, H ≤ g → w.heap[g]? = some (χ c 2 f) → W.heap[g]? = w.heap[g]?) : IJ W H v xs := by
 obtain ⟨sa, cap, h1, h2⟩ := h
 refine ⟨sa, cap, h1, h2.imp id fun ⟨g, off, a, b, c, d⟩ => ?_⟩
 obtain ⟨cc, f, e⟩ := d
 have hk := x g cc f c e
 exact ⟨g, off, a, fun j hj => (World.cell?_of_block (w := w) (a := ⟨g, off + j, none⟩) hk).trans (b j hj), c, cc, f, hk.trans e⟩
theorem IJ.kf {w W : World} {H b : Nat} {v : Value} {xs : List Int} (h : IJ w H v xs) (x : KF H b w W) (hb : b < H) : IJ W H v xs := h.keep fun g c f hg e => x.blk g (Array.getElem?_eq_some_iff.1 e).1 (by omega) (Or.inr fun c' t' f' e' => by
 rw [e] at e'
 simp at e'
 rw [← e'.2.1]
 exact ⟨by decide, by decide⟩)
theorem IJ.bel {w W : World} {H : Nat} {v : Value} {xs : List Int} (h : IJ w H v xs) (x : Bel w W) : IJ W H v xs := h.keep fun g c f _ e => Below.block x g (Array.getElem?_eq_some_iff.1 e).1
theorem IJ.box {w : World} {H k o : Nat} {t : TypeId} {vs : List Value} {u v : Value} {xs : List Int} (h : IJ w H v xs) (x : Bx w k t vs) (ht : t ≠ 2) : IJ (w.setCell ⟨k, o, none⟩ u) H v xs := h.keep fun g c f _ e => Below.heap_setCell _ _ _ _ (fun q => by
 have q : g = k := q
 subst q
 unfold Bx at x
 rw [x] at e
 simp at e
 exact ht e.2.1)
theorem IJ.of {w : World} {H : Nat} {v : Value} {xs : List Int} (h : w.ownsRow H 2 1 v xs.length (xs.map (Value.int .i64))) : IJ w H v xs := by
 rcases h.2 with ⟨rfl, h0⟩ | ⟨g, cap, cur, rfl, q, hg, _⟩
 ·exact ⟨none, 0, by rw [h0], Or.inl (List.length_eq_zero_iff.1 h0)⟩
 ·refine ⟨_, cap, rfl, ?_⟩
  by_cases e : xs = []
  ·exact Or.inl e
  ·refine Or.inr ⟨g, 0, rfl, fun j hj => ?_, q, cur, (0, 0), hg⟩
   rw [Nat.zero_add, h.cellAt j (by omega)]
   simp [List.getD_eq_getElem?_getD, hj]
def LOk (W : World) (lo : Nat) : Prop := lo ≤ W.heap.size
theorem LOk.kf {w W : World} {H b lo : Nat} (h : LOk w lo) (x : KF H b w W) (_ : b < H) : LOk W lo := Nat.le_trans h x.size
theorem LOk.bel {w W : World} {lo : Nat} (h : LOk w lo) (x : Bel w W) : LOk W lo := Nat.le_trans h (Below.size x)
theorem LOk.box {w : World} {lo k o : Nat} {t : TypeId} {vs : List Value} {u : Value} (h : LOk w lo) (x : Bx w k t vs) (_ : t ≠ 2) : LOk (w.setCell ⟨k, o, none⟩ u) lo := by unfold LOk at *; simpa [World.setCell] using h
theorem AD.kx {w W : World} {H b lo : Nat} {vA vB uA uB : Value} {xs ss : List Int} (h : AD w lo uA uB xs ss) (k : KX H b vA vB w W) (hb : b < lo) (d1 : ∀ j, uA.ownBlock = some j → vA.ownBlock ≠ some j ∧ vB.ownBlock ≠ some j) (d2 : ∀ j, uB.ownBlock = some j → vA.ownBlock ≠ some j ∧ vB.ownBlock ≠ some j) : AD W lo uA uB xs ss := by
 have q : ∀ {v : Value} {n : Nat} {l : List Value}, w.ownsRow lo 2 1 v n l → (∀ j, v.ownBlock = some j → vA.ownBlock ≠ some j ∧ vB.ownBlock ≠ some j) → W.ownsRow lo 2 1 v n l := fun {v n l} r d => by
  refine ⟨r.1, ?_⟩
  rcases r.2 with hn | ⟨g, cap, cur, rfl, hg, hgg, rest⟩
  ·exact Or.inl hn
  ·obtain ⟨e1, e2⟩ := d g rfl
   exact Or.inr ⟨g, cap, cur, rfl, hg, (k.blk g (Array.getElem?_eq_some_iff.1 hgg).1 (by omega) e1 e2 (Or.inr (zu13 r (by decide) (by decide) rfl))).trans hgg, rest⟩
 exact ⟨⟨q h.dv.a d1, q h.dv.c d2, h.dv.dj⟩, h.lx, h.ls⟩
structure PD (w W : World) (H b : Nat) (sv : Value) (L : List Dst) (bs : List Bo) (vA vB : Value) (xs ss : List Int) : Prop where
 p : PBx w W H b sv L bs
 a : AD W H vA vB xs ss
theorem PD.set {w W : World} {H b : Nat} {sv : Value} {L : List Dst} {bs : List Bo} {vA vB : Value} {xs ss : List Int} (h : PD w W H b sv L bs vA vB xs ss) (i : Nat) {k : Nat} {t : TypeId} {vs : List Value} (hi : bs[i]? = some (k, t, vs)) (o : Nat) (u : Value) : PD w (W.setCell ⟨k, o, none⟩ u) H b sv L (bs.set i (k, t, vs.set o u)) vA vB xs ss := by
 obtain ⟨h1, h2, h3⟩ := h.p.bx i _ hi
 exact ⟨h.p.set i hi o u, h.a.box h1 (zd23 h3).2.2⟩
theorem PD.drew {w W : World} {H b : Nat} {sv : Value} {L : List Dst} {bs : List Bo} {vA vB : Value} {xs ss : List Int} (h : PD w W H b sv L bs vA vB xs ss) : PD w W.drew H b sv L bs vA vB xs ss := ⟨h.p.drew, h.a.bel (zz W)⟩
theorem PBx.nil {w W : World} {H b : Nat} {sv : Value} {L : List Dst} {bs : List Bo} (h : PBx w W H b sv L bs) : PBx w W H b sv L [] := ⟨h.sx, h.hH, h.os, h.tape, h.output, h.size, h.kb, h.dh, h.dg, fun i q h => by simp at h, fun i j q r h => by simp at h⟩
end
end Go.Proofs.YtjbbodfdpbcnhaaGreat
