import Derived.Test.YtfhcpicddegblaaGreatM8
import Derived.Test.YtfhcpicddegblaaGreatM7
set_option linter.unusedSimpArgs false
set_option linter.unusedVariables false
set_option maxRecDepth 100000
set_option maxHeartbeats 8000000
namespace Go.Proofs.YtfhcpicddegblaaGreat
open List renaming setIfInBounds_toArray → sT, set_cons_zero → sZ, set_cons_succ → sS
open Go.Value renaming int → O, slice → σ, pointer → π, agg → γ
open Go.IntKind renaming i64 → ι
open Go.Act renaming put → aP
section
open Go.ChangeShapes Go.RowKit FL
def cellV (x : C3) : Value := γ #[O ι x.1, .float .f64 x.2.1, .float .f64 x.2.2]
structure CmpK (gf : Nat) (cb : Array Value) (b off n : Nat) (w : World) (Sx : C3 → Prop) (lt : C3 → C3 → Bool) : Prop where
 call : ∀ W, MRg b off n w W → ∀ x y, Sx x → Sx y → Calls Tryz.prog gf (#[cellV x, cellV y] ++ cb) W fun e W' => (∃ c : Int, e = .returned (O ι c) ∧ decide (c < 0) = lt x y) ∧ Ext W W'
theorem CmpK.later {gf : Nat} {cb : Array Value} {b off n : Nat} {w W : World} {Sx : C3 → Prop} {lt : C3 → C3 → Bool} (h : CmpK gf cb b off n w Sx lt) (x : MRg b off n w W) : CmpK gf cb b off n W Sx lt := ⟨fun W' y => h.call W' (x.tr y)⟩
theorem zw4 {w : World} {b off n cap a bb gf : Nat} {cb : Array Value} {Sx : C3 → Prop} {lt : C3 → C3 → Bool} {e : Nat → C3 × Nat} (eg : ∀ args w, (callFunc gf args).run Tryz.prog w = .ok (.enter gf args) w) (hw : Wk Sx lt) (h : CF w b off n (fun i => (e i).1)) (hf : ∀ o, w.frozen? ⟨b, o, none⟩ = false) (hk : CmpK gf cb b off n w Sx lt) (hs : ∀ i, i < n → Sx (e i).1) (ht : ∀ i j, a ≤ i → i < j → j < bb → (e i).2 < (e j).2) (hab : a ≤ bb) (hb : bb ≤ n) (hn : n ≤ 1048576) :
  Calls Tryz.prog 133 #[σ (some ⟨b, off, none⟩) n cap, O ι a, O ι bb, .func (.func gf) #[] cb] w fun r w' => r = .returned (.tuple #[]) ∧ ∃ r, Mgd lt a bb e r ∧ CF w' b off n (fun i => (e (r i)).1) ∧ MRg b off n w w' := by
 have HC := hide h
 have HK := hide hk
 have HS := hide hs
 have HT := hide ht
 have HW := hide hw
 have HF : Hid (∀ W', MRg b off n w W' → ∀ o, W'.frozen? ⟨b, o, none⟩ = false) := fun W' x o => (x.m.fz _).trans (hf o)
 clear h hf hk hs ht hw
 go_enter Tryz.func133, Tryz.ntmps133
 go_wp2
 go_loopw [8] (fun u wr => ∃ (k : Nat) (r : Nat → Nat), u = O ι k ∧ a + 1 ≤ k ∧ (k ≤ bb ∨ (k = a + 1 ∧ bb = a ∧ ∀ i, r i = i)) ∧ Prm a k r ∧ Srt lt a k (fun i => e (r i)) ∧ CF wr b off n (fun i => (e (r i)).1) ∧ MRg b off n w wr) (fun u _ => bb - (intOf u).toNat)
 case atStart => exact ⟨a + 1, fun i => i, by go_num, by omega, by rcases Nat.lt_or_ge a bb with z | z; exact Or.inl z; exact Or.inr ⟨rfl, by omega, fun _ => rfl⟩, Prm.refl _ _, fun i j h1 h2 h3 => absurd h2 (by omega), HC.out, MRg.refl _ _ _ _⟩
 case round =>
  obtain ⟨k, r, rfl, hk1, hk2, hp, hs, hc, hm⟩ := hrel
  have HM := hide hm
  have HC2 := hide hc
  have HP := hide hp
  have HS2 := hide hs
  clear hc hm HC hp hs
  by_cases hlt : k < bb
  ·have hd : decide ((k : Int) < (bb : Int)) = true := decide_eq_true (by omega)
   have hM0 := HM.out
   obtain ⟨e', He'⟩ : ∃ e', Hid ((fun i => e (r i)) = e') := ⟨_, rfl⟩
   have HC3 : Hid (CF wr b off n (fun i => (e' i).1)) := by rw [← He'.out]; exact HC2.out
   have HG : Hid (Mg Sx lt a k (k + 1) e') := by
    rw [← He'.out]
    refine ⟨HS2.out, fun i j q1 q2 q3 => absurd q2 (by omega), fun i j q1 q2 q3 q4 => ?_, by omega, by omega, fun i q1 q2 => HS.out _ ?_⟩
    ·obtain rfl : j = k := by omega
     show (e (r i)).2 < (e (r j)).2
     rw [HP.out.out j (by omega)]
     have := HP.out.inn i q1 q2
     exact HT.out _ _ this.1 this.2 hlt
    ·by_cases z : i < k
     ·have := HP.out.inn i q1 z; omega
     ·rw [HP.out.out i (by omega)]; omega
   have HSe : Hid (∀ i, a ≤ i → i ≤ k → Sx (e' i).1) := fun i q1 q2 => HG.out.s i q1 (by omega)
   go_wp2
   go_loopw [9] (fun u wr => ∃ (p : Nat), u = O ι p ∧ a ≤ p ∧ p ≤ k ∧ CF wr b off n (fun i => (e' (rot p k (k + 1) i)).1) ∧ (∀ h, p ≤ h → h < k → lts lt (e' k) (e' h)) ∧ MRg b off n w wr) (fun u _ => (intOf u).toNat)
   case atStart => exact ⟨k, rfl, by omega, by omega, HC3.out.congr fun i _ => by rw [show rot k k (k + 1) i = i from zk4 _ _ _], fun h q1 q2 => absurd q1 (by omega), hM0⟩
   case round =>
    clear HM HC2 HC3 hM0
    obtain ⟨p, rfl, hp1, hp2, hc, hlo, hm⟩ := hrel
    have HM := hide hm
    have HC2 := hide hc
    have HLO := hide hlo
    clear hc hm hlo
    rcases Nat.eq_or_lt_of_le hp1 with hpa | hpa
    ·subst hpa
     have hd1 : decide ((a : Int) < (a : Int)) = false := decide_eq_false (by omega)
     go_wp2_with fail
     have SA : Hid ((fun _ : World => True) wr.drew) := trivial
     refine zq (fun ac a' w' => ∃ (y18 y19 y20 y21 y22 y23 y24 y25 y26 y27 y28 y29 y30 y31 y32 y33 : Value), a' = (((((((((((((((((ac.put (some 18) (y18)).put (some 19) (y19)).put (some 20) (y20)).put (some 21) (y21)).put (some 22) (y22)).put (some 23) (y23)).put (some 24) (y24)).put (some 25) (y25)).put (some 26) (y26)).put (some 27) (y27)).put (some 28) (y28)).put (some 29) (y29)).put (some 30) (y30)).put (some 31) (y31)).put (some 32) (y32)).put (some 33) (y33)).put (some 34) (.bool false)) ∧ Ext wr w') (S := (fun _ : World => True)) (late := []) (by kernel_rfl) ?_ ?_
     rotate_left
     ·refine zl27 0 18 (O ι a) rfl (.inl ⟨by kernel_rfl, ?_⟩) SA.out ?_
      ·intro w' z0
       go_simp
      simp only [aP, sT, sZ, sS]
      refine zl27 1 19 (O ι a) rfl (.inl ⟨by kernel_rfl, ?_⟩) SA.out ?_
      ·intro w' z0
       go_simp
      simp only [aP, sT, sZ, sS]
      refine zl27 2 20 (.bool false) rfl (.inl ⟨by kernel_rfl, ?_⟩) SA.out ?_
      ·intro w' z0
       go_simp
      simp only [aP, sT, sZ, sS]
      refine zl27 3 21 (.bool false) rfl (.inl ⟨by kernel_rfl, ?_⟩) SA.out ?_
      ·intro w' z0
       go_simp
      simp only [aP, sT, sZ, sS]
      refine zh (i := 4) (d := 22) (v := undef) rfl (by rfl) (by kernel_rfl) (by kernel_rfl) (fun _ _ _ h => by cases h.1) _ (by kernel_rfl) (by kernel_rfl) (Or.inr ⟨by kernel_rfl, rfl⟩) SA.out ?_
      simp only [aP, sT, sZ, sS]
      refine zh (i := 5) (d := 23) (v := undef) rfl (by rfl) (by kernel_rfl) (by kernel_rfl) (fun _ _ _ h => by cases h.1) _ (by kernel_rfl) (by kernel_rfl) (Or.inr ⟨by kernel_rfl, rfl⟩) SA.out ?_
      simp only [aP, sT, sZ, sS]
      refine zh (i := 6) (d := 24) (v := undef) rfl (by rfl) (by kernel_rfl) (by kernel_rfl) (fun _ _ _ h => by cases h.1) _ (by kernel_rfl) (by kernel_rfl) (Or.inr ⟨by kernel_rfl, rfl⟩) SA.out ?_
      simp only [aP, sT, sZ, sS]
      refine zh (i := 7) (d := 25) (v := undef) rfl (by rfl) (by kernel_rfl) (by kernel_rfl) (fun _ _ _ h => by cases h.1) _ (by kernel_rfl) (by kernel_rfl) (Or.inr ⟨by kernel_rfl, rfl⟩) SA.out ?_
      simp only [aP, sT, sZ, sS]
      refine zh (i := 8) (d := 26) (v := undef) rfl (by rfl) (by kernel_rfl) (by kernel_rfl) (fun _ _ _ h => by cases h.1) _ (by kernel_rfl) (by kernel_rfl) (Or.inr ⟨by kernel_rfl, rfl⟩) SA.out ?_
      simp only [aP, sT, sZ, sS]
      refine zh (i := 9) (d := 27) (v := undef) rfl (by rfl) (by kernel_rfl) (by kernel_rfl) (fun _ _ _ h => by cases h.1) _ (by kernel_rfl) (by kernel_rfl) (Or.inr ⟨by kernel_rfl, rfl⟩) SA.out ?_
      simp only [aP, sT, sZ, sS]
      refine zh (i := 10) (d := 28) (v := undef) rfl (by rfl) (by kernel_rfl) (by kernel_rfl) (fun _ _ _ h => by cases h.1) _ (by kernel_rfl) (by kernel_rfl) (Or.inr ⟨by kernel_rfl, rfl⟩) SA.out ?_
      simp only [aP, sT, sZ, sS]
      refine zh (i := 11) (d := 29) (v := undef) rfl (by rfl) (by kernel_rfl) (by kernel_rfl) (fun _ _ _ h => by cases h.1) _ (by kernel_rfl) (by kernel_rfl) (Or.inr ⟨by kernel_rfl, rfl⟩) SA.out ?_
      simp only [aP, sT, sZ, sS]
      refine zh (i := 12) (d := 30) (v := undef) rfl (by rfl) (by kernel_rfl) (by kernel_rfl) (fun _ _ _ h => by cases h.1) _ (by kernel_rfl) (by kernel_rfl) (Or.inr ⟨by kernel_rfl, rfl⟩) SA.out ?_
      simp only [aP, sT, sZ, sS]
      refine zh (i := 13) (d := 31) (v := undef) rfl (by rfl) (by kernel_rfl) (by kernel_rfl) (fun _ _ _ h => by cases h.1) _ (by kernel_rfl) (by kernel_rfl) (Or.inr ⟨by kernel_rfl, rfl⟩) SA.out ?_
      simp only [aP, sT, sZ, sS]
      refine zh (i := 14) (d := 32) (v := undef) rfl (by rfl) (by kernel_rfl) (by kernel_rfl) (fun _ _ _ h => by cases h.1) _ (by kernel_rfl) (by kernel_rfl) (Or.inr ⟨by kernel_rfl, rfl⟩) SA.out ?_
      simp only [aP, sT, sZ, sS]
      refine zh (i := 15) (d := 33) (v := undef) rfl (by rfl) (by kernel_rfl) (by kernel_rfl) (fun _ _ _ h => by cases h.1) _ (by kernel_rfl) (by kernel_rfl) (Or.inr ⟨by kernel_rfl, rfl⟩) SA.out ?_
      simp only [aP, sT, sZ, sS]
      refine zl27 16 34 (.bool false) rfl (.inl ⟨by kernel_rfl, ?_⟩) SA.out ?_
      ·intro w' z0
       go_simp
      simp only [aP, sT, sZ, sS]
      refine zg (by kernel_rfl) ?_ _
      exact ⟨rfl, O ι a, O ι a, .bool false, .bool false, undef, undef, undef, undef, undef, undef, undef, undef, undef, undef, undef, undef, by kernel_rfl, (Ext.refl wr).drew⟩
     rintro a' W1 ⟨y18, y19, y20, y21, y22, y23, y24, y25, y26, y27, y28, y29, y30, y31, y32, y33, rfl, xx⟩
     have HM2 := hide (HM.out.ext xx)
     have HC3 := hide (HC2.out.ext xx)
     clear xx HM HC2
     simp only [aP, sT, sZ, sS]
     go_wp2
     refine ⟨⟨k + 1, fun i => r (rot a k (k + 1) i), by go_num, by omega, Or.inl (by omega), ?_, ?_, ?_, HM2.out⟩, ?_⟩
     ·exact (HP.out.wide (Nat.le_refl _) (by omega)).comp (zp6 (by omega) (by omega))
     ·have q := zt23 HG.out (Nat.le_refl _) (by omega) (fun h q1 q2 => absurd q1 (by omega)) (fun h q1 q2 => HLO.out h q1 q2)
      exact q.2.same fun i _ _ => by rw [← He'.out]
     ·exact HC3.out.congr fun i _ => by rw [← He'.out]
     ·simp [intOf]; omega
    ·have hd1 : decide ((a : Int) < (p : Int)) = true := decide_eq_true (by omega)
     obtain ⟨q, Hq⟩ : ∃ q, Hid (p - 1 = q) := ⟨_, rfl⟩
     have eq' : (p : Int) - 1 = (q : Int) := by have := Hq.out; omega
     have wq' : IntKind.i64.wrap (q : Int) = (q : Int) := wrap_small _ (by have := Hq.out; omega) (by have := Hq.out; omega)
     have hpn : p < n := by omega
     have hqn : q < n := by have := Hq.out; omega
     have hpq : p ≠ q := by have := Hq.out; omega
     have bp0 : (0 : Int) ≤ (p : Int) := Int.natCast_nonneg _
     have bq0 : (0 : Int) ≤ (q : Int) := Int.natCast_nonneg _
     have bp1 : (p : Int) < (n : Int) := by omega
     have bq1 : (q : Int) < (n : Int) := by omega
     obtain ⟨g, Hg⟩ : ∃ g, Hid ((fun i => (e' (rot p k (k + 1) i)).1) = g) := ⟨_, rfl⟩
     rw [Hg.out] at HC2
     obtain ⟨u0, u1, u2, Hu⟩ : ∃ u0 u1 u2, Hid (g p = (u0, u1, u2)) := ⟨_, _, _, rfl⟩
     obtain ⟨v0, v1, v2, Hv⟩ : ∃ u0 u1 u2, Hid (g q = (u0, u1, u2)) := ⟨_, _, _, rfl⟩
     have Hgp : Hid ((u0, u1, u2) = (e' k).1) := by
      show (u0, u1, u2) = _
      rw [← Hu.out, ← Hg.out]
      show (e' (rot p k (k + 1) p)).1 = _
      rw [zb3 (by omega) (by omega) (by omega), show p - p + k = k by omega]
     have Hgq : Hid ((v0, v1, v2) = (e' q).1) := by
      show (v0, v1, v2) = _
      rw [← Hv.out, ← Hg.out]
      show (e' (rot p k (k + 1) q)).1 = _
      rw [zg2 (by have := Hq.out; omega)]
     have HSu : Hid (Sx (u0, u1, u2)) := by show Sx (u0, u1, u2); rw [Hgp.out]; exact HSe.out k (by omega) (Nat.le_refl _)
     have HSv : Hid (Sx (v0, v1, v2)) := by show Sx (v0, v1, v2); rw [Hgq.out]; exact HSe.out q (by have := Hq.out; omega) (by have := Hq.out; omega)
     obtain ⟨c10, c11, c12⟩ := HC2.out p hpn
     obtain ⟨c20, c21, c22⟩ := HC2.out q hqn
     rw [Hu.out] at c10 c11 c12
     rw [Hv.out] at c20 c21 c22
     go_wp2_with fail
     have SA : Hid ((fun w' : World => w'.cell? ⟨b, off + p * 3, none⟩ = some (O ι u0) ∧ w'.cell? ⟨b, off + p * 3 + 1, none⟩ = some (.float .f64 u1) ∧ w'.cell? ⟨b, off + p * 3 + 2, none⟩ = some (.float .f64 u2) ∧ w'.cell? ⟨b, off + q * 3, none⟩ = some (O ι v0) ∧ w'.cell? ⟨b, off + q * 3 + 1, none⟩ = some (.float .f64 v1) ∧ w'.cell? ⟨b, off + q * 3 + 2, none⟩ = some (.float .f64 v2)) wr.drew) := ⟨c10, c11, c12, c20, c21, c22⟩
     refine zq (fun ac a' w' => ∃ (y18 y19 y20 y21 y22 y23 y24 y25 y26 y27 y28 y29 y30 y31 y32 y33 : Value), a' = (((((((((((((((((ac.put (some 18) (y18)).put (some 19) (y19)).put (some 20) (y20)).put (some 21) (y21)).put (some 22) (y22)).put (some 23) (y23)).put (some 24) (y24)).put (some 25) (y25)).put (some 26) (y26)).put (some 27) (y27)).put (some 28) (y28)).put (some 29) (y29)).put (some 30) (y30)).put (some 31) (y31)).put (some 32) (y32)).put (some 33) (y33)).put (some 34) (.bool (lt (u0, u1, u2) (v0, v1, v2)))) ∧ Ext wr w') (S := (fun w' : World => w'.cell? ⟨b, off + p * 3, none⟩ = some (O ι u0) ∧ w'.cell? ⟨b, off + p * 3 + 1, none⟩ = some (.float .f64 u1) ∧ w'.cell? ⟨b, off + p * 3 + 2, none⟩ = some (.float .f64 u2) ∧ w'.cell? ⟨b, off + q * 3, none⟩ = some (O ι v0) ∧ w'.cell? ⟨b, off + q * 3 + 1, none⟩ = some (.float .f64 v1) ∧ w'.cell? ⟨b, off + q * 3 + 2, none⟩ = some (.float .f64 v2))) (late := []) (by kernel_rfl) ?_ ?_
     rotate_left
     ·refine zl27 0 18 (O ι p) rfl (.inl ⟨by kernel_rfl, ?_⟩) SA.out ?_
      ·rintro w' ⟨z0, z1, z2, z3, z4, z5⟩
       go_simp
      simp only [aP, sT, sZ, sS]
      refine zl27 1 19 (O ι a) rfl (.inl ⟨by kernel_rfl, ?_⟩) SA.out ?_
      ·rintro w' ⟨z0, z1, z2, z3, z4, z5⟩
       go_simp
      simp only [aP, sT, sZ, sS]
      refine zl27 2 20 (.bool true) rfl (.inl ⟨by kernel_rfl, ?_⟩) SA.out ?_
      ·rintro w' ⟨z0, z1, z2, z3, z4, z5⟩
       go_simp
      simp only [aP, sT, sZ, sS]
      refine zl27 3 21 (.bool true) rfl (.inl ⟨by kernel_rfl, ?_⟩) SA.out ?_
      ·rintro w' ⟨z0, z1, z2, z3, z4, z5⟩
       go_simp
      simp only [aP, sT, sZ, sS]
      refine zl27 4 22 (.func (.func gf) #[] cb) rfl (.inl ⟨by kernel_rfl, ?_⟩) SA.out ?_
      ·rintro w' ⟨z0, z1, z2, z3, z4, z5⟩
       go_simp
      simp only [aP, sT, sZ, sS]
      refine zl27 5 23 (σ (some ⟨b, off, none⟩) n cap) rfl (.inl ⟨by kernel_rfl, ?_⟩) SA.out ?_
      ·rintro w' ⟨z0, z1, z2, z3, z4, z5⟩
       go_simp
      simp only [aP, sT, sZ, sS]
      refine zl27 6 24 (O ι p) rfl (.inl ⟨by kernel_rfl, ?_⟩) SA.out ?_
      ·rintro w' ⟨z0, z1, z2, z3, z4, z5⟩
       go_simp
      simp only [aP, sT, sZ, sS]
      refine zl27 7 25 (π (some ⟨b, off + p * 3, none⟩)) rfl (.inl ⟨by kernel_rfl, ?_⟩) SA.out ?_
      ·rintro w' ⟨z0, z1, z2, z3, z4, z5⟩
       go_simp
      simp only [aP, sT, sZ, sS]
      refine zl27 8 26 (γ #[O ι u0, .float .f64 u1, .float .f64 u2]) rfl (.inl ⟨by kernel_rfl, ?_⟩) SA.out ?_
      ·rintro w' ⟨z0, z1, z2, z3, z4, z5⟩
       go_simp
      simp only [aP, sT, sZ, sS]
      refine zl27 9 27 (σ (some ⟨b, off, none⟩) n cap) rfl (.inl ⟨by kernel_rfl, ?_⟩) SA.out ?_
      ·rintro w' ⟨z0, z1, z2, z3, z4, z5⟩
       go_simp
      simp only [aP, sT, sZ, sS]
      refine zl27 10 28 (O ι p) rfl (.inl ⟨by kernel_rfl, ?_⟩) SA.out ?_
      ·rintro w' ⟨z0, z1, z2, z3, z4, z5⟩
       go_simp
      simp only [aP, sT, sZ, sS]
      refine zl27 11 29 (O ι q) rfl (.inl ⟨by kernel_rfl, ?_⟩) SA.out ?_
      ·rintro w' ⟨z0, z1, z2, z3, z4, z5⟩
       go_simp
      simp only [aP, sT, sZ, sS]
      refine zl27 12 30 (π (some ⟨b, off + q * 3, none⟩)) rfl (.inl ⟨by kernel_rfl, ?_⟩) SA.out ?_
      ·rintro w' ⟨z0, z1, z2, z3, z4, z5⟩
       go_simp
      simp only [aP, sT, sZ, sS]
      refine zl27 13 31 (γ #[O ι v0, .float .f64 v1, .float .f64 v2]) rfl (.inl ⟨by kernel_rfl, ?_⟩) SA.out ?_
      ·rintro w' ⟨z0, z1, z2, z3, z4, z5⟩
       go_simp
      simp only [aP, sT, sZ, sS]
      have HCC := hide (HK.out.call wr.drew (HM.out.ext (Ext.refl wr).drew) (u0, u1, u2) (v0, v1, v2) HSu.out HSv.out)
      refine ze (i := 14) (by kernel_rfl) rfl (fun K hK => ?_)
      go_simp
      refine HCC.out.mono ?_
      rintro e2 t1 ⟨⟨cc, rfl, hcc⟩, xx⟩
      have XW : Hid (Ext wr t1) := (Ext.refl wr).drew.trans xx
      have SB : Hid ((fun w' : World => w'.cell? ⟨b, off + p * 3, none⟩ = some (O ι u0) ∧ w'.cell? ⟨b, off + p * 3 + 1, none⟩ = some (.float .f64 u1) ∧ w'.cell? ⟨b, off + p * 3 + 2, none⟩ = some (.float .f64 u2) ∧ w'.cell? ⟨b, off + q * 3, none⟩ = some (O ι v0) ∧ w'.cell? ⟨b, off + q * 3 + 1, none⟩ = some (.float .f64 v1) ∧ w'.cell? ⟨b, off + q * 3 + 2, none⟩ = some (.float .f64 v2)) t1) := ⟨XW.out.box c10, XW.out.box c11, XW.out.box c12, XW.out.box c20, XW.out.box c21, XW.out.box c22⟩
      clear xx
      refine hK.out _ _ (fun _ => SB.out) ?_
      clear hK K
      try simp only [aP, sT, sZ, sS]
      refine zl27 15 33 (.bool (lt (u0, u1, u2) (v0, v1, v2))) rfl (.inl ⟨by kernel_rfl, ?_⟩) SB.out ?_
      ·rintro w' ⟨z0, z1, z2, z3, z4, z5⟩
       go_simp
      simp only [aP, sT, sZ, sS]
      refine zl27 16 34 (.bool (lt (u0, u1, u2) (v0, v1, v2))) rfl (.inl ⟨by kernel_rfl, ?_⟩) SB.out ?_
      ·rintro w' ⟨z0, z1, z2, z3, z4, z5⟩
       go_simp
      simp only [aP, sT, sZ, sS]
      refine zg (by kernel_rfl) ?_ _
      exact ⟨rfl, O ι p, O ι a, .bool true, .bool true, .func (.func gf) #[] cb, σ (some ⟨b, off, none⟩) n cap, O ι p, π (some ⟨b, off + p * 3, none⟩), γ #[O ι u0, .float .f64 u1, .float .f64 u2], σ (some ⟨b, off, none⟩) n cap, O ι p, O ι q, π (some ⟨b, off + q * 3, none⟩), γ #[O ι v0, .float .f64 v1, .float .f64 v2], O ι cc, .bool (lt (u0, u1, u2) (v0, v1, v2)), by kernel_rfl, XW.out⟩
     rintro a' W1 ⟨y18, y19, y20, y21, y22, y23, y24, y25, y26, y27, y28, y29, y30, y31, y32, y33, rfl, xx⟩
     replace HM := hide (HM.out.ext xx)
     replace HC2 := hide (HC2.out.ext xx)
     clear xx c10 c11 c12 c20 c21 c22 SA
     simp only [aP, sT, sZ, sS]
     cases hl : lt (u0, u1, u2) (v0, v1, v2) with
     | true =>
      have HLT : Hid (lts lt (e' k) (e' q)) := Or.inl (by rw [← Hgp.out, ← Hgq.out]; exact hl)
      clear hl
      go_wp2_with fail
      refine zl4 (fun ac a' w' => a' = ((((((((((((((((ac.put (some 37) (σ (some ⟨b, off, none⟩) n cap)).put (some 38) (O ι p)).put (some 39) (σ (some ⟨b, off, none⟩) n cap)).put (some 40) (O ι p)).put (some 41) (O ι q)).put (some 42) (σ (some ⟨b, off, none⟩) n cap)).put (some 43) (O ι p)).put (some 44) (O ι q)).put (some 45) (π (some ⟨b, off + q * 3, none⟩))).put (some 47) (σ (some ⟨b, off, none⟩) n cap)).put (some 48) (O ι p)).put (some 49) (π (some ⟨b, off + p * 3, none⟩))).put (some 46) (γ #[O ι v0, .float .f64 v1, .float .f64 v2])).put (some 50) (γ #[O ι u0, .float .f64 u1, .float .f64 u2])).put (some 51) (π (some ⟨b, off + p * 3, none⟩))).put (some 52) (π (some ⟨b, off + q * 3, none⟩))) ∧ CF w' b off n (fun z => g (sw1 p q z)) ∧ MRg b off n w w') (S := (fun w' : World => w'.cell? ⟨b, off + p * 3, none⟩ = some (O ι u0) ∧ w'.cell? ⟨b, off + p * 3 + 1, none⟩ = some (.float .f64 u1) ∧ w'.cell? ⟨b, off + p * 3 + 2, none⟩ = some (.float .f64 u2) ∧ w'.cell? ⟨b, off + q * 3, none⟩ = some (O ι v0) ∧ w'.cell? ⟨b, off + q * 3 + 1, none⟩ = some (.float .f64 v1) ∧ w'.cell? ⟨b, off + q * 3 + 2, none⟩ = some (.float .f64 v2))) (T := (fun _ : World => True)) (late := [15, 17]) (by kernel_rfl) ?_ ?_
      rotate_left
      ·have X0 : Ext W1 W1.drew := (Ext.refl W1).drew
       replace HC2 := hide (HC2.out.ext X0)
       replace HM := hide (HM.out.ext X0)
       clear X0
       generalize W1.drew = t0 at HC2 HM ⊢
       have fz := HF.out t0 HM.out
       have HSW := hide (HC2.out.swap hpn hqn)
       have HMM := hide ((HM.out.st3 hpn (g q)).st3 hqn (g p))
       obtain ⟨c10, c11, c12⟩ := HC2.out p hpn
       obtain ⟨c20, c21, c22⟩ := HC2.out q hqn
       rw [Hu.out] at c10 c11 c12 HSW HMM
       rw [Hv.out] at c20 c21 c22 HSW HMM
       have k0 := zt1 (c := (v0, v1, v2)) (o := off + p * 3) (by omega) c20
       have k1 := zt1 (c := (v0, v1, v2)) (o := off + p * 3) (by omega) c21
       have k2 := zt1 (c := (v0, v1, v2)) (o := off + p * 3) (by omega) c22
       simp only [st3] at k0 k1 k2 c10 c11 c12 c20 c21 c22 HSW HMM
       have SA : Hid ((fun w' : World => w'.cell? ⟨b, off + p * 3, none⟩ = some (O ι u0) ∧ w'.cell? ⟨b, off + p * 3 + 1, none⟩ = some (.float .f64 u1) ∧ w'.cell? ⟨b, off + p * 3 + 2, none⟩ = some (.float .f64 u2) ∧ w'.cell? ⟨b, off + q * 3, none⟩ = some (O ι v0) ∧ w'.cell? ⟨b, off + q * 3 + 1, none⟩ = some (.float .f64 v1) ∧ w'.cell? ⟨b, off + q * 3 + 2, none⟩ = some (.float .f64 v2)) t0) := ⟨c10, c11, c12, c20, c21, c22⟩
       refine zf (i := 0) (d := 37) (v := σ (some ⟨b, off, none⟩) n cap) rfl (by rfl) (by kernel_rfl) (by kernel_rfl) (fun _ _ _ h => by cases h.1) _ (by kernel_rfl) (by kernel_rfl) (Or.inl ⟨by kernel_rfl, ?_⟩) trivial (fun _ => SA.out) ?_
       ·intro w' h
        go_simp
       simp only [aP, sT, sZ, sS]
       refine zf (i := 1) (d := 38) (v := O ι p) rfl (by rfl) (by kernel_rfl) (by kernel_rfl) (fun _ _ _ h => by cases h.1) _ (by kernel_rfl) (by kernel_rfl) (Or.inl ⟨by kernel_rfl, ?_⟩) trivial (fun _ => SA.out) ?_
       ·intro w' h
        go_simp
       simp only [aP, sT, sZ, sS]
       refine zf (i := 2) (d := 39) (v := σ (some ⟨b, off, none⟩) n cap) rfl (by rfl) (by kernel_rfl) (by kernel_rfl) (fun _ _ _ h => by cases h.1) _ (by kernel_rfl) (by kernel_rfl) (Or.inl ⟨by kernel_rfl, ?_⟩) trivial (fun _ => SA.out) ?_
       ·intro w' h
        go_simp
       simp only [aP, sT, sZ, sS]
       refine zf (i := 3) (d := 40) (v := O ι p) rfl (by rfl) (by kernel_rfl) (by kernel_rfl) (fun _ _ _ h => by cases h.1) _ (by kernel_rfl) (by kernel_rfl) (Or.inl ⟨by kernel_rfl, ?_⟩) trivial (fun _ => SA.out) ?_
       ·intro w' h
        go_simp
       simp only [aP, sT, sZ, sS]
       refine zf (i := 4) (d := 41) (v := O ι q) rfl (by rfl) (by kernel_rfl) (by kernel_rfl) (fun _ _ _ h => by cases h.1) _ (by kernel_rfl) (by kernel_rfl) (Or.inl ⟨by kernel_rfl, ?_⟩) trivial (fun _ => SA.out) ?_
       ·intro w' h
        go_simp
       simp only [aP, sT, sZ, sS]
       refine zf (i := 5) (d := 42) (v := σ (some ⟨b, off, none⟩) n cap) rfl (by rfl) (by kernel_rfl) (by kernel_rfl) (fun _ _ _ h => by cases h.1) _ (by kernel_rfl) (by kernel_rfl) (Or.inl ⟨by kernel_rfl, ?_⟩) trivial (fun _ => SA.out) ?_
       ·intro w' h
        go_simp
       simp only [aP, sT, sZ, sS]
       refine zf (i := 6) (d := 43) (v := O ι p) rfl (by rfl) (by kernel_rfl) (by kernel_rfl) (fun _ _ _ h => by cases h.1) _ (by kernel_rfl) (by kernel_rfl) (Or.inl ⟨by kernel_rfl, ?_⟩) trivial (fun _ => SA.out) ?_
       ·intro w' h
        go_simp
       simp only [aP, sT, sZ, sS]
       refine zf (i := 7) (d := 44) (v := O ι q) rfl (by rfl) (by kernel_rfl) (by kernel_rfl) (fun _ _ _ h => by cases h.1) _ (by kernel_rfl) (by kernel_rfl) (Or.inl ⟨by kernel_rfl, ?_⟩) trivial (fun _ => SA.out) ?_
       ·intro w' h
        go_simp
       simp only [aP, sT, sZ, sS]
       refine zf (i := 8) (d := 45) (v := π (some ⟨b, off + q * 3, none⟩)) rfl (by rfl) (by kernel_rfl) (by kernel_rfl) (fun _ _ _ h => by cases h.1) _ (by kernel_rfl) (by kernel_rfl) (Or.inl ⟨by kernel_rfl, ?_⟩) trivial (fun _ => SA.out) ?_
       ·intro w' h
        go_simp
       simp only [aP, sT, sZ, sS]
       refine zf (i := 10) (d := 47) (v := σ (some ⟨b, off, none⟩) n cap) rfl (by rfl) (by kernel_rfl) (by kernel_rfl) (fun _ _ _ h => by cases h.1) _ (by kernel_rfl) (by kernel_rfl) (Or.inl ⟨by kernel_rfl, ?_⟩) trivial (fun _ => SA.out) ?_
       ·intro w' h
        go_simp
       simp only [aP, sT, sZ, sS]
       refine zf (i := 11) (d := 48) (v := O ι p) rfl (by rfl) (by kernel_rfl) (by kernel_rfl) (fun _ _ _ h => by cases h.1) _ (by kernel_rfl) (by kernel_rfl) (Or.inl ⟨by kernel_rfl, ?_⟩) trivial (fun _ => SA.out) ?_
       ·intro w' h
        go_simp
       simp only [aP, sT, sZ, sS]
       refine zf (i := 12) (d := 49) (v := π (some ⟨b, off + p * 3, none⟩)) rfl (by rfl) (by kernel_rfl) (by kernel_rfl) (fun _ _ _ h => by cases h.1) _ (by kernel_rfl) (by kernel_rfl) (Or.inl ⟨by kernel_rfl, ?_⟩) trivial (fun _ => SA.out) ?_
       ·intro w' h
        go_simp
       simp only [aP, sT, sZ, sS]
       refine zj1 (i := 9) (d := 46) (v := γ #[O ι v0, .float .f64 v1, .float .f64 v2]) rfl (by rfl) (by kernel_rfl) (by kernel_rfl) (by kernel_rfl) (fun _ _ _ h => by cases h.1) _ (by kernel_rfl) (by kernel_rfl) (by kernel_rfl) (Or.inl ⟨by kernel_rfl, ?_⟩) trivial SA.out ?_
       ·rintro w' ⟨z0, z1, z2, z3, z4, z5⟩
        go_simp
       simp only [aP, sT, sZ, sS]
       refine zj1 (i := 13) (d := 50) (v := γ #[O ι u0, .float .f64 u1, .float .f64 u2]) rfl (by rfl) (by kernel_rfl) (by kernel_rfl) (by kernel_rfl) (fun _ _ _ h => by cases h.1) _ (by kernel_rfl) (by kernel_rfl) (by kernel_rfl) (Or.inl ⟨by kernel_rfl, ?_⟩) trivial SA.out ?_
       ·rintro w' ⟨z0, z1, z2, z3, z4, z5⟩
        go_simp
       simp only [aP, sT, sZ, sS]
       refine zf (i := 14) (d := 51) (v := π (some ⟨b, off + p * 3, none⟩)) rfl (by rfl) (by kernel_rfl) (by kernel_rfl) (fun _ _ _ h => by cases h.1) _ (by kernel_rfl) (by kernel_rfl) (Or.inl ⟨by kernel_rfl, ?_⟩) trivial (fun _ => SA.out) ?_
       ·intro w' h
        go_simp
       simp only [aP, sT, sZ, sS]
       refine zu1 (i := 15) (by kernel_rfl) rfl (fun K hK => ?_)
       go_simp
       refine hK.out _ _ trivial (fun h => absurd (show true = false from h.symm.trans (by kernel_rfl)) Bool.noConfusion) ?_
       clear hK K
       try simp only [aP, sT, sZ, sS]
       refine zf (i := 16) (d := 52) (v := π (some ⟨b, off + q * 3, none⟩)) rfl (by rfl) (by kernel_rfl) (by kernel_rfl) (fun _ _ _ h => by cases h.1) _ (by kernel_rfl) (by kernel_rfl) (Or.inl ⟨by kernel_rfl, ?_⟩) trivial (fun h => absurd (show true = false from h.symm.trans (by kernel_rfl)) Bool.noConfusion) ?_
       ·intro w' h
        go_simp
       simp only [aP, sT, sZ, sS]
       refine zu1 (i := 17) (by kernel_rfl) rfl (fun K hK => ?_)
       go_simp
       refine hK.out _ _ trivial (fun h => absurd (show true = false from h.symm.trans (by kernel_rfl)) Bool.noConfusion) ?_
       clear hK K
       try simp only [aP, sT, sZ, sS]
       refine zh3 (by kernel_rfl) ?_ _
       exact ⟨rfl, by kernel_rfl, HSW.out, HMM.out⟩
      rintro a' W2 ⟨rfl, hc, hm⟩
      have HC3 := hide hc
      have HM3 := hide hm
      clear hc hm HC2 HM
      simp only [aP, sT, sZ, sS]
      go_wp2
      go_roundw
      ·refine ⟨q, by go_num, by have := Hq.out; omega, by have := Hq.out; omega, HC3.out.congr fun i _ => ?_, fun h q1 q2 => ?_, HM3.out⟩
       ·rw [← Hg.out, ← Hq.out]
        show _ = (e' (rot p k (k + 1) (sw1 p (p - 1) i))).1
        rw [zg15 (by omega) (by omega)]
       ·by_cases z : h = q
        ·rw [z]; exact HLT.out
        ·exact HLO.out h (by have := Hq.out; omega) q2
      ·have := Hq.out
       simp [intOf]; omega
     | false =>
      have HLT : Hid (lts lt (e' q) (e' k)) := Or.inr ⟨by rw [← Hgp.out, ← Hgq.out]; exact hl, HG.out.num q k (by have := Hq.out; omega) (by have := Hq.out; omega) (Nat.le_refl _) (by omega)⟩
      clear hl
      go_wp2
      refine ⟨⟨k + 1, fun i => r (rot p k (k + 1) i), by go_num, by omega, Or.inl (by omega), ?_, ?_, ?_, HM.out⟩, ?_⟩
      ·exact (HP.out.wide (Nat.le_refl _) (by omega)).comp ((zp6 (by omega) (by omega)).wide (by omega) (Nat.le_refl _))
      ·have z := zt23 HG.out (by omega) hp2 (fun h q1 q2 => ?_) (fun h q1 q2 => HLO.out h q1 q2)
       ·exact z.2.same fun i _ _ => by rw [← He'.out]
       ·by_cases z : h = q
        ·rw [z]; exact HLT.out
        ·have hq := Hq.out
         exact HW.out.trans (HSe.out h q1 (by omega)) (HSe.out q (by omega) (by omega)) (HSe.out k (by omega) (by omega)) (HG.out.l h q q1 (by omega) (by omega)) HLT.out
      ·exact HC2.out.congr fun i _ => by rw [← Hg.out, ← He'.out]
      ·simp [intOf]; omega
  ·have hd : decide ((k : Int) < (bb : Int)) = false := decide_eq_false (by omega)
   go_wp2
   refine bodyPost_end (results_none rfl _ _ _) rfl ⟨rfl, ?_⟩
   rcases hk2 with hk2 | ⟨hk3, hk4, hk5⟩
   ·obtain rfl : k = bb := by omega
    exact ⟨r, ⟨HP.out, HS2.out⟩, HC2.out, HM.out⟩
   ·exact ⟨fun i => i, ⟨Prm.refl _ _, fun i j q1 q2 q3 => absurd q2 (by omega)⟩, HC2.out.congr fun i _ => by rw [hk5 i], HM.out⟩
theorem Mg.congr {α : Type} {S : α → Prop} {lt : α → α → Bool} {a m b : Nat} {e f : Nat → α × Nat} (h : Mg S lt a m b e) (k : ∀ i, a ≤ i → i < b → f i = e i) : Mg S lt a m b f :=
 ⟨h.l.same fun i q1 q2 => k i q1 (Nat.lt_of_lt_of_le q2 h.mb), h.r.same fun i q1 q2 => k i (Nat.le_trans h.am q1) q2, fun i j q1 q2 q3 q4 => by rw [k i q1 (Nat.lt_of_lt_of_le q2 h.mb), k j (Nat.le_trans h.am q3) q4]; exact h.num i j q1 q2 q3 q4, h.am, h.mb, fun i q1 q2 => by rw [k i q1 q2]; exact h.s i q1 q2⟩
def SpC (a m bb mid s0 r0 : Nat) : Prop := (mid < m ∧ s0 = mid + m - bb ∧ r0 = mid) ∨ (m ≤ mid ∧ s0 = a ∧ r0 = m)
def SmOk (lt : C3 → C3 → Bool) (b off n a bb : Nat) (e : Nat → C3 × Nat) (w : World) (r : Ending) (w' : World) : Prop := r = .returned (.tuple #[]) ∧ ∃ r, Mgd lt a bb e r ∧ CF w' b off n (fun i => (e (r i)).1) ∧ MRg b off n w w'
theorem zq5 {b off n cap gf : Nat} {cb : Array Value} {Sx : C3 → Prop} {lt : C3 → C3 → Bool} (eg : ∀ args w, (callFunc gf args).run Tryz.prog w = .ok (.enter gf args) w) (hw : Wk Sx lt) (hn : n ≤ 1048576) : ∀ (N : Nat) (w : World) (a m bb : Nat) (e : Nat → C3 × Nat), bb - a ≤ N → Mg Sx lt a m bb e → a < m → m < bb → bb ≤ n → CF w b off n (fun i => (e i).1) → (∀ o, w.frozen? ⟨b, o, none⟩ = false) → CmpK gf cb b off n w Sx lt →
  Calls Tryz.prog 134 #[σ (some ⟨b, off, none⟩) n cap, O ι a, O ι m, O ι bb, .func (.func gf) #[] cb] w fun r w' => SmOk lt b off n a bb e w r w' := by
 have HW := hide hw
 clear hw
 intro N
 induction N with
 | zero => intro w a m bb e h0 _ h1 h2; exact absurd h0 (by omega)
 | succ N ih =>
  intro w a m bb e h0 hg ham hmb hbn h hf hk
  have HC := hide h
  have HK := hide hk
  have HG := hide hg
  have IH := hide ih
  have HF : Hid (∀ W', MRg b off n w W' → ∀ o, W'.frozen? ⟨b, o, none⟩ = false) := fun W' x o => (x.m.fz _).trans (hf o)
  clear h hf hk hg ih
  by_cases hm1 : m = a + 1
  ·have ed : (m : Int) - (a : Int) = 1 := by omega
   have Hm := hide hm1
   clear hm1
   go_enter Tryz.func134, Tryz.ntmps134
   go_wp2
   go_loopw [10, 11] (fun u v wr => ∃ (i j : Nat), u = O ι i ∧ v = O ι j ∧ m ≤ i ∧ i ≤ j ∧ j ≤ bb ∧ (∀ h, m ≤ h → h < i → lts lt (e h) (e a)) ∧ (∀ h, j ≤ h → h < bb → lts lt (e a) (e h)) ∧ CF wr b off n (fun i => (e i).1) ∧ MRg b off n w wr) (fun u v _ => (intOf v).toNat - (intOf u).toNat)
   case atStart => exact ⟨m, bb, rfl, rfl, by omega, by omega, by omega, fun h q1 q2 => absurd q1 (by omega), fun h q1 q2 => absurd q1 (by omega), HC.out, MRg.refl _ _ _ _⟩
   case round =>
    obtain ⟨i, j, rfl, rfl, h1, h2, h3, hlo, hhi, hc, hm⟩ := hrel
    have HM := hide hm
    have HC2 := hide hc
    have HLO := hide hlo
    have HHI := hide hhi
    clear hc hm hlo hhi HC
    by_cases hij : i < j
    ·have hd : decide ((i : Int) < (j : Int)) = true := decide_eq_true (by omega)
     have ws : IntKind.i64.wrap ((i : Int) + (j : Int)) = (i : Int) + (j : Int) := wrap_small _ (by omega) (by omega)
     obtain ⟨p, Hp⟩ : ∃ p, Hid ((i + j) / 2 = p) := ⟨_, rfl⟩
     have hp1 : i ≤ p ∧ p < j := by have := Hp.out; omega
     have eh : ((i : Int) + (j : Int)) / 2 = (p : Int) := by have := Hp.out; omega
     have b0p : (0 : Int) ≤ (p : Int) := Int.natCast_nonneg _
     have b1p : (p : Int) < (n : Int) := by omega
     have b0a : (0 : Int) ≤ (a : Int) := Int.natCast_nonneg _
     have b1a : (a : Int) < (n : Int) := by omega
     obtain ⟨u0, u1, u2, Hu⟩ : ∃ u0 u1 u2, Hid ((e p).1 = (u0, u1, u2)) := ⟨_, _, _, rfl⟩
     obtain ⟨v0, v1, v2, Hv⟩ : ∃ u0 u1 u2, Hid ((e a).1 = (u0, u1, u2)) := ⟨_, _, _, rfl⟩
     have HSu : Hid (Sx (u0, u1, u2)) := by show Sx (u0, u1, u2); rw [← Hu.out]; exact HG.out.s p (by omega) (by omega)
     have HSv : Hid (Sx (v0, v1, v2)) := by show Sx (v0, v1, v2); rw [← Hv.out]; exact HG.out.s a (by omega) (by omega)
     obtain ⟨c10, c11, c12⟩ := HC2.out p (by omega)
     obtain ⟨c20, c21, c22⟩ := HC2.out a (by omega)
     dsimp only at c10 c11 c12 c20 c21 c22
     rw [Hu.out] at c10 c11 c12
     rw [Hv.out] at c20 c21 c22
     go_wp2_with fail
     have SA : Hid ((fun w' : World => w'.cell? ⟨b, off + p * 3, none⟩ = some (O ι u0) ∧ w'.cell? ⟨b, off + p * 3 + 1, none⟩ = some (.float .f64 u1) ∧ w'.cell? ⟨b, off + p * 3 + 2, none⟩ = some (.float .f64 u2) ∧ w'.cell? ⟨b, off + a * 3, none⟩ = some (O ι v0) ∧ w'.cell? ⟨b, off + a * 3 + 1, none⟩ = some (.float .f64 v1) ∧ w'.cell? ⟨b, off + a * 3 + 2, none⟩ = some (.float .f64 v2)) wr.drew) := ⟨c10, c11, c12, c20, c21, c22⟩
     refine zq (fun ac a' w' => ∃ (y40 y41 y42 y43 y44 y45 y46 y47 y48 y49 : Value), a' = (((((((((((ac.put (some 40) (y40)).put (some 41) (y41)).put (some 42) (y42)).put (some 43) (y43)).put (some 44) (y44)).put (some 45) (y45)).put (some 46) (y46)).put (some 47) (y47)).put (some 48) (y48)).put (some 49) (y49)).put (some 50) (.bool (lt (u0, u1, u2) (v0, v1, v2)))) ∧ Ext wr w') (S := (fun w' : World => w'.cell? ⟨b, off + p * 3, none⟩ = some (O ι u0) ∧ w'.cell? ⟨b, off + p * 3 + 1, none⟩ = some (.float .f64 u1) ∧ w'.cell? ⟨b, off + p * 3 + 2, none⟩ = some (.float .f64 u2) ∧ w'.cell? ⟨b, off + a * 3, none⟩ = some (O ι v0) ∧ w'.cell? ⟨b, off + a * 3 + 1, none⟩ = some (.float .f64 v1) ∧ w'.cell? ⟨b, off + a * 3 + 2, none⟩ = some (.float .f64 v2))) (late := []) (by kernel_rfl) ?_ ?_
     rotate_left
     ·refine zl27 0 40 (.func (.func gf) #[] cb) rfl (.inl ⟨by kernel_rfl, ?_⟩) SA.out ?_
      ·rintro w' ⟨z0, z1, z2, z3, z4, z5⟩
       go_simp
      simp only [aP, sT, sZ, sS]
      refine zl27 1 41 (σ (some ⟨b, off, none⟩) n cap) rfl (.inl ⟨by kernel_rfl, ?_⟩) SA.out ?_
      ·rintro w' ⟨z0, z1, z2, z3, z4, z5⟩
       go_simp
      simp only [aP, sT, sZ, sS]
      refine zl27 2 42 (O ι p) rfl (.inl ⟨by kernel_rfl, ?_⟩) SA.out ?_
      ·rintro w' ⟨z0, z1, z2, z3, z4, z5⟩
       go_simp
      simp only [aP, sT, sZ, sS]
      refine zl27 3 43 (π (some ⟨b, off + p * 3, none⟩)) rfl (.inl ⟨by kernel_rfl, ?_⟩) SA.out ?_
      ·rintro w' ⟨z0, z1, z2, z3, z4, z5⟩
       go_simp
      simp only [aP, sT, sZ, sS]
      refine zl27 4 44 (γ #[O ι u0, .float .f64 u1, .float .f64 u2]) rfl (.inl ⟨by kernel_rfl, ?_⟩) SA.out ?_
      ·rintro w' ⟨z0, z1, z2, z3, z4, z5⟩
       go_simp
      simp only [aP, sT, sZ, sS]
      refine zl27 5 45 (σ (some ⟨b, off, none⟩) n cap) rfl (.inl ⟨by kernel_rfl, ?_⟩) SA.out ?_
      ·rintro w' ⟨z0, z1, z2, z3, z4, z5⟩
       go_simp
      simp only [aP, sT, sZ, sS]
      refine zl27 6 46 (O ι a) rfl (.inl ⟨by kernel_rfl, ?_⟩) SA.out ?_
      ·rintro w' ⟨z0, z1, z2, z3, z4, z5⟩
       go_simp
      simp only [aP, sT, sZ, sS]
      refine zl27 7 47 (π (some ⟨b, off + a * 3, none⟩)) rfl (.inl ⟨by kernel_rfl, ?_⟩) SA.out ?_
      ·rintro w' ⟨z0, z1, z2, z3, z4, z5⟩
       go_simp
      simp only [aP, sT, sZ, sS]
      refine zl27 8 48 (γ #[O ι v0, .float .f64 v1, .float .f64 v2]) rfl (.inl ⟨by kernel_rfl, ?_⟩) SA.out ?_
      ·rintro w' ⟨z0, z1, z2, z3, z4, z5⟩
       go_simp
      simp only [aP, sT, sZ, sS]
      have HCC := hide (HK.out.call wr.drew (HM.out.ext (Ext.refl wr).drew) (u0, u1, u2) (v0, v1, v2) HSu.out HSv.out)
      refine ze (i := 9) (by kernel_rfl) rfl (fun K hK => ?_)
      go_simp
      refine HCC.out.mono ?_
      rintro e2 t1 ⟨⟨cc, rfl, hcc⟩, xx⟩
      have XW : Hid (Ext wr t1) := (Ext.refl wr).drew.trans xx
      have SB : Hid ((fun w' : World => w'.cell? ⟨b, off + p * 3, none⟩ = some (O ι u0) ∧ w'.cell? ⟨b, off + p * 3 + 1, none⟩ = some (.float .f64 u1) ∧ w'.cell? ⟨b, off + p * 3 + 2, none⟩ = some (.float .f64 u2) ∧ w'.cell? ⟨b, off + a * 3, none⟩ = some (O ι v0) ∧ w'.cell? ⟨b, off + a * 3 + 1, none⟩ = some (.float .f64 v1) ∧ w'.cell? ⟨b, off + a * 3 + 2, none⟩ = some (.float .f64 v2)) t1) := ⟨XW.out.box c10, XW.out.box c11, XW.out.box c12, XW.out.box c20, XW.out.box c21, XW.out.box c22⟩
      clear xx
      refine hK.out _ _ (fun _ => SB.out) ?_
      clear hK K
      try simp only [aP, sT, sZ, sS]
      refine zl27 10 50 (.bool (lt (u0, u1, u2) (v0, v1, v2))) rfl (.inl ⟨by kernel_rfl, ?_⟩) SB.out ?_
      ·rintro w' ⟨z0, z1, z2, z3, z4, z5⟩
       go_simp
      simp only [aP, sT, sZ, sS]
      refine zg (by kernel_rfl) ?_ _
      exact ⟨rfl, .func (.func gf) #[] cb, σ (some ⟨b, off, none⟩) n cap, O ι p, π (some ⟨b, off + p * 3, none⟩), γ #[O ι u0, .float .f64 u1, .float .f64 u2], σ (some ⟨b, off, none⟩) n cap, O ι a, π (some ⟨b, off + a * 3, none⟩), γ #[O ι v0, .float .f64 v1, .float .f64 v2], O ι cc, by kernel_rfl, XW.out⟩
     rintro a' W1 ⟨y40, y41, y42, y43, y44, y45, y46, y47, y48, y49, rfl, xx⟩
     replace HM := hide (HM.out.ext xx)
     replace HC2 := hide (HC2.out.ext xx)
     clear xx c10 c11 c12 c20 c21 c22 SA
     simp only [aP, sT, sZ, sS]
     cases hl : lt (u0, u1, u2) (v0, v1, v2) with
     | true =>
      have HLT : Hid (lts lt (e p) (e a)) := Or.inl (by rw [Hu.out, Hv.out]; exact hl)
      clear hl
      go_wp2
      refine ⟨⟨p + 1, j, by go_num, rfl, by omega, by omega, h3, fun h q1 q2 => ?_, HHI.out, HC2.out, HM.out⟩, ?_⟩
      ·by_cases z : h = p
       ·rw [z]; exact HLT.out
       ·have k := HG.out.r h p (by omega) (by omega) (by omega)
        exact HW.out.trans (HG.out.s h (by omega) (by omega)) (HG.out.s p (by omega) (by omega)) (HG.out.s a (by omega) (by omega)) k HLT.out
      ·simp [intOf]; omega
     | false =>
      have HLT : Hid (lts lt (e a) (e p)) := Or.inr ⟨by rw [Hu.out, Hv.out]; exact hl, HG.out.num a p (by omega) (by omega) (by omega) (by omega)⟩
      clear hl
      go_wp2
      refine ⟨⟨i, p, rfl, rfl, by omega, by omega, by omega, HLO.out, fun h q1 q2 => ?_, HC2.out, HM.out⟩, ?_⟩
      ·by_cases z : h = p
       ·rw [z]; exact HLT.out
       ·have k := HG.out.r p h (by omega) (by omega) (by omega)
        exact HW.out.trans (HG.out.s a (by omega) (by omega)) (HG.out.s p (by omega) (by omega)) (HG.out.s h (by omega) (by omega)) HLT.out k
      ·simp [intOf]; omega
    ·obtain rfl : i = j := by omega
     have hd : decide ((i : Int) < (i : Int)) = false := decide_eq_false (by omega)
     have HC3 : Hid (CF wr b off n (fun z => (e (rot a m (a + 1) z)).1)) := HC2.out.congr fun z _ => by rw [Hm.out, zl9 _ _ _ (by omega)]
     have hM0 := HM.out
     go_wp2
     go_loopw [13] (fun u wr => ∃ (k : Nat), u = O ι k ∧ a ≤ k ∧ k + 1 ≤ i ∧ CF wr b off n (fun z => (e (rot a m (k + 1) z)).1) ∧ MRg b off n w wr) (fun u _ => i - (intOf u).toNat)
     case atStart => exact ⟨a, rfl, Nat.le_refl _, by omega, HC3.out, hM0⟩
     case round =>
      clear HM HC2 HC3 hM0
      obtain ⟨p, rfl, hp1, hp2, hc, hm⟩ := hrel
      have HM := hide hm
      have HC2 := hide hc
      clear hc hm
      have wi : IntKind.i64.wrap ((i : Int) - 1) = (i : Int) - 1 := wrap_small _ (by omega) (by omega)
      by_cases hpi : p + 1 < i
      ·have hd1 : decide ((p : Int) < (i : Int) - 1) = true := decide_eq_true (by omega)
       obtain ⟨q, Hq⟩ : ∃ q, Hid (p + 1 = q) := ⟨_, rfl⟩
       have eq' : (p : Int) + 1 = (q : Int) := by have := Hq.out; omega
       have wq' : IntKind.i64.wrap (q : Int) = (q : Int) := wrap_small _ (by have := Hq.out; omega) (by have := Hq.out; omega)
       have hpn : p < n := by omega
       have hqn : q < n := by have := Hq.out; omega
       have hpq : p ≠ q := by have := Hq.out; omega
       have b0p : (0 : Int) ≤ (p : Int) := Int.natCast_nonneg _
       have b1p : (p : Int) < (n : Int) := by omega
       have b0q : (0 : Int) ≤ (q : Int) := Int.natCast_nonneg _
       have b1q : (q : Int) < (n : Int) := by omega
       obtain ⟨g, Hg⟩ : ∃ g, Hid ((fun z => (e (rot a m (p + 1) z)).1) = g) := ⟨_, rfl⟩
       rw [Hg.out] at HC2
       go_wp2_with fail
       obtain ⟨u0, u1, u2, Hu⟩ : ∃ u0 u1 u2, Hid (g p = (u0, u1, u2)) := ⟨_, _, _, rfl⟩
       obtain ⟨v0, v1, v2, Hv⟩ : ∃ u0 u1 u2, Hid (g q = (u0, u1, u2)) := ⟨_, _, _, rfl⟩
       refine zl4 (fun ac a' w' => a' = ((((((((((((((((ac.put (some 61) (σ (some ⟨b, off, none⟩) n cap)).put (some 62) (O ι p)).put (some 63) (σ (some ⟨b, off, none⟩) n cap)).put (some 64) (O ι p)).put (some 65) (O ι q)).put (some 66) (σ (some ⟨b, off, none⟩) n cap)).put (some 67) (O ι p)).put (some 68) (O ι q)).put (some 69) (π (some ⟨b, off + q * 3, none⟩))).put (some 71) (σ (some ⟨b, off, none⟩) n cap)).put (some 72) (O ι p)).put (some 73) (π (some ⟨b, off + p * 3, none⟩))).put (some 70) (γ #[O ι v0, .float .f64 v1, .float .f64 v2])).put (some 74) (γ #[O ι u0, .float .f64 u1, .float .f64 u2])).put (some 75) (π (some ⟨b, off + p * 3, none⟩))).put (some 76) (π (some ⟨b, off + q * 3, none⟩))) ∧ CF w' b off n (fun z => g (sw1 p q z)) ∧ MRg b off n w w') (S := (fun w' : World => w'.cell? ⟨b, off + p * 3, none⟩ = some (O ι u0) ∧ w'.cell? ⟨b, off + p * 3 + 1, none⟩ = some (.float .f64 u1) ∧ w'.cell? ⟨b, off + p * 3 + 2, none⟩ = some (.float .f64 u2) ∧ w'.cell? ⟨b, off + q * 3, none⟩ = some (O ι v0) ∧ w'.cell? ⟨b, off + q * 3 + 1, none⟩ = some (.float .f64 v1) ∧ w'.cell? ⟨b, off + q * 3 + 2, none⟩ = some (.float .f64 v2))) (T := (fun _ : World => True)) (late := [15, 17]) (by kernel_rfl) ?_ ?_
       rotate_left
       ·have X0 : Ext wr wr.drew := (Ext.refl wr).drew
        replace HC2 := hide (HC2.out.ext X0)
        replace HM := hide (HM.out.ext X0)
        clear X0
        generalize wr.drew = t0 at HC2 HM ⊢
        have fz := HF.out t0 HM.out
        have HSW := hide (HC2.out.swap hpn hqn)
        have HMM := hide ((HM.out.st3 hpn (g q)).st3 hqn (g p))
        obtain ⟨c10, c11, c12⟩ := HC2.out p hpn
        obtain ⟨c20, c21, c22⟩ := HC2.out q hqn
        rw [Hu.out] at c10 c11 c12 HSW HMM
        rw [Hv.out] at c20 c21 c22 HSW HMM
        have k0 := zt1 (c := (v0, v1, v2)) (o := off + p * 3) (by omega) c20
        have k1 := zt1 (c := (v0, v1, v2)) (o := off + p * 3) (by omega) c21
        have k2 := zt1 (c := (v0, v1, v2)) (o := off + p * 3) (by omega) c22
        simp only [st3] at k0 k1 k2 c10 c11 c12 c20 c21 c22 HSW HMM
        have SA : Hid ((fun w' : World => w'.cell? ⟨b, off + p * 3, none⟩ = some (O ι u0) ∧ w'.cell? ⟨b, off + p * 3 + 1, none⟩ = some (.float .f64 u1) ∧ w'.cell? ⟨b, off + p * 3 + 2, none⟩ = some (.float .f64 u2) ∧ w'.cell? ⟨b, off + q * 3, none⟩ = some (O ι v0) ∧ w'.cell? ⟨b, off + q * 3 + 1, none⟩ = some (.float .f64 v1) ∧ w'.cell? ⟨b, off + q * 3 + 2, none⟩ = some (.float .f64 v2)) t0) := ⟨c10, c11, c12, c20, c21, c22⟩
        refine zf (i := 0) (d := 61) (v := σ (some ⟨b, off, none⟩) n cap) rfl (by rfl) (by kernel_rfl) (by kernel_rfl) (fun _ _ _ h => by cases h.1) _ (by kernel_rfl) (by kernel_rfl) (Or.inl ⟨by kernel_rfl, ?_⟩) trivial (fun _ => SA.out) ?_
        ·intro w' h
         go_simp
        simp only [aP, sT, sZ, sS]
        refine zf (i := 1) (d := 62) (v := O ι p) rfl (by rfl) (by kernel_rfl) (by kernel_rfl) (fun _ _ _ h => by cases h.1) _ (by kernel_rfl) (by kernel_rfl) (Or.inl ⟨by kernel_rfl, ?_⟩) trivial (fun _ => SA.out) ?_
        ·intro w' h
         go_simp
        simp only [aP, sT, sZ, sS]
        refine zf (i := 2) (d := 63) (v := σ (some ⟨b, off, none⟩) n cap) rfl (by rfl) (by kernel_rfl) (by kernel_rfl) (fun _ _ _ h => by cases h.1) _ (by kernel_rfl) (by kernel_rfl) (Or.inl ⟨by kernel_rfl, ?_⟩) trivial (fun _ => SA.out) ?_
        ·intro w' h
         go_simp
        simp only [aP, sT, sZ, sS]
        refine zf (i := 3) (d := 64) (v := O ι p) rfl (by rfl) (by kernel_rfl) (by kernel_rfl) (fun _ _ _ h => by cases h.1) _ (by kernel_rfl) (by kernel_rfl) (Or.inl ⟨by kernel_rfl, ?_⟩) trivial (fun _ => SA.out) ?_
        ·intro w' h
         go_simp
        simp only [aP, sT, sZ, sS]
        refine zf (i := 4) (d := 65) (v := O ι q) rfl (by rfl) (by kernel_rfl) (by kernel_rfl) (fun _ _ _ h => by cases h.1) _ (by kernel_rfl) (by kernel_rfl) (Or.inl ⟨by kernel_rfl, ?_⟩) trivial (fun _ => SA.out) ?_
        ·intro w' h
         go_simp
        simp only [aP, sT, sZ, sS]
        refine zf (i := 5) (d := 66) (v := σ (some ⟨b, off, none⟩) n cap) rfl (by rfl) (by kernel_rfl) (by kernel_rfl) (fun _ _ _ h => by cases h.1) _ (by kernel_rfl) (by kernel_rfl) (Or.inl ⟨by kernel_rfl, ?_⟩) trivial (fun _ => SA.out) ?_
        ·intro w' h
         go_simp
        simp only [aP, sT, sZ, sS]
        refine zf (i := 6) (d := 67) (v := O ι p) rfl (by rfl) (by kernel_rfl) (by kernel_rfl) (fun _ _ _ h => by cases h.1) _ (by kernel_rfl) (by kernel_rfl) (Or.inl ⟨by kernel_rfl, ?_⟩) trivial (fun _ => SA.out) ?_
        ·intro w' h
         go_simp
        simp only [aP, sT, sZ, sS]
        refine zf (i := 7) (d := 68) (v := O ι q) rfl (by rfl) (by kernel_rfl) (by kernel_rfl) (fun _ _ _ h => by cases h.1) _ (by kernel_rfl) (by kernel_rfl) (Or.inl ⟨by kernel_rfl, ?_⟩) trivial (fun _ => SA.out) ?_
        ·intro w' h
         go_simp
        simp only [aP, sT, sZ, sS]
        refine zf (i := 8) (d := 69) (v := π (some ⟨b, off + q * 3, none⟩)) rfl (by rfl) (by kernel_rfl) (by kernel_rfl) (fun _ _ _ h => by cases h.1) _ (by kernel_rfl) (by kernel_rfl) (Or.inl ⟨by kernel_rfl, ?_⟩) trivial (fun _ => SA.out) ?_
        ·intro w' h
         go_simp
        simp only [aP, sT, sZ, sS]
        refine zf (i := 10) (d := 71) (v := σ (some ⟨b, off, none⟩) n cap) rfl (by rfl) (by kernel_rfl) (by kernel_rfl) (fun _ _ _ h => by cases h.1) _ (by kernel_rfl) (by kernel_rfl) (Or.inl ⟨by kernel_rfl, ?_⟩) trivial (fun _ => SA.out) ?_
        ·intro w' h
         go_simp
        simp only [aP, sT, sZ, sS]
        refine zf (i := 11) (d := 72) (v := O ι p) rfl (by rfl) (by kernel_rfl) (by kernel_rfl) (fun _ _ _ h => by cases h.1) _ (by kernel_rfl) (by kernel_rfl) (Or.inl ⟨by kernel_rfl, ?_⟩) trivial (fun _ => SA.out) ?_
        ·intro w' h
         go_simp
        simp only [aP, sT, sZ, sS]
        refine zf (i := 12) (d := 73) (v := π (some ⟨b, off + p * 3, none⟩)) rfl (by rfl) (by kernel_rfl) (by kernel_rfl) (fun _ _ _ h => by cases h.1) _ (by kernel_rfl) (by kernel_rfl) (Or.inl ⟨by kernel_rfl, ?_⟩) trivial (fun _ => SA.out) ?_
        ·intro w' h
         go_simp
        simp only [aP, sT, sZ, sS]
        refine zj1 (i := 9) (d := 70) (v := γ #[O ι v0, .float .f64 v1, .float .f64 v2]) rfl (by rfl) (by kernel_rfl) (by kernel_rfl) (by kernel_rfl) (fun _ _ _ h => by cases h.1) _ (by kernel_rfl) (by kernel_rfl) (by kernel_rfl) (Or.inl ⟨by kernel_rfl, ?_⟩) trivial SA.out ?_
        ·rintro w' ⟨z0, z1, z2, z3, z4, z5⟩
         go_simp
        simp only [aP, sT, sZ, sS]
        refine zj1 (i := 13) (d := 74) (v := γ #[O ι u0, .float .f64 u1, .float .f64 u2]) rfl (by rfl) (by kernel_rfl) (by kernel_rfl) (by kernel_rfl) (fun _ _ _ h => by cases h.1) _ (by kernel_rfl) (by kernel_rfl) (by kernel_rfl) (Or.inl ⟨by kernel_rfl, ?_⟩) trivial SA.out ?_
        ·rintro w' ⟨z0, z1, z2, z3, z4, z5⟩
         go_simp
        simp only [aP, sT, sZ, sS]
        refine zf (i := 14) (d := 75) (v := π (some ⟨b, off + p * 3, none⟩)) rfl (by rfl) (by kernel_rfl) (by kernel_rfl) (fun _ _ _ h => by cases h.1) _ (by kernel_rfl) (by kernel_rfl) (Or.inl ⟨by kernel_rfl, ?_⟩) trivial (fun _ => SA.out) ?_
        ·intro w' h
         go_simp
        simp only [aP, sT, sZ, sS]
        refine zu1 (i := 15) (by kernel_rfl) rfl (fun K hK => ?_)
        go_simp
        refine hK.out _ _ trivial (fun h => absurd (show true = false from h.symm.trans (by kernel_rfl)) Bool.noConfusion) ?_
        clear hK K
        try simp only [aP, sT, sZ, sS]
        refine zf (i := 16) (d := 76) (v := π (some ⟨b, off + q * 3, none⟩)) rfl (by rfl) (by kernel_rfl) (by kernel_rfl) (fun _ _ _ h => by cases h.1) _ (by kernel_rfl) (by kernel_rfl) (Or.inl ⟨by kernel_rfl, ?_⟩) trivial (fun h => absurd (show true = false from h.symm.trans (by kernel_rfl)) Bool.noConfusion) ?_
        ·intro w' h
         go_simp
        simp only [aP, sT, sZ, sS]
        refine zu1 (i := 17) (by kernel_rfl) rfl (fun K hK => ?_)
        go_simp
        refine hK.out _ _ trivial (fun h => absurd (show true = false from h.symm.trans (by kernel_rfl)) Bool.noConfusion) ?_
        clear hK K
        try simp only [aP, sT, sZ, sS]
        refine zh3 (by kernel_rfl) ?_ _
        exact ⟨rfl, by kernel_rfl, HSW.out, HMM.out⟩
       rintro a' W2 ⟨rfl, hc, hm⟩
       have HC3 := hide hc
       have HM3 := hide hm
       clear hc hm HC2 HM
       simp only [aP, sT, sZ, sS]
       go_wp2
       refine ⟨⟨q, by go_num, by have := Hq.out; omega, by have := Hq.out; omega, HC3.out.congr fun z _ => ?_, HM3.out⟩, ?_⟩
       ·rw [← Hg.out, ← Hq.out, Hm.out]
        show _ = (e (rot a (a + 1) (p + 1) (sw1 p (p + 1) z))).1
        rw [za26 hp1]
       ·have := Hq.out
        simp [intOf]; omega
      ·have hd1 : decide ((p : Int) < (i : Int) - 1) = false := decide_eq_false (by omega)
       go_wp2
       have hpi2 : p + 1 = i := by omega
       have HRES : Hid (SmOk lt b off n a bb e w (.returned (.tuple #[])) wr) := by
        refine ⟨rfl, rot a m i, ?_, HC2.out.congr fun z _ => by rw [hpi2], HM.out⟩
        have hm := Hm.out
        subst hm
        exact ze27 HG.out h1 (by omega) HLO.out HHI.out
       first | exact bodyPost_end (results_none rfl _ _ _) rfl HRES.out | exact bodyPost_ret (results_none rfl _ _ _) rfl HRES.out
  by_cases hb1 : bb = m + 1
  ·have hne : ((m : Int) - (a : Int) == 1) = false := beq_eq_false_iff_ne.2 (by omega)
   have ed : (bb : Int) - (m : Int) = 1 := by omega
   have Hb := hide hb1
   clear hb1
   go_enter Tryz.func134, Tryz.ntmps134
   go_wp2
   go_loopw [14, 15] (fun u v wr => ∃ (i j : Nat), u = O ι i ∧ v = O ι j ∧ a ≤ i ∧ i ≤ j ∧ j ≤ m ∧ (∀ h, a ≤ h → h < i → lts lt (e h) (e m)) ∧ (∀ h, j ≤ h → h < m → lts lt (e m) (e h)) ∧ CF wr b off n (fun i => (e i).1) ∧ MRg b off n w wr) (fun u v _ => (intOf v).toNat - (intOf u).toNat)
   case atStart => exact ⟨a, m, rfl, rfl, by omega, by omega, by omega, fun h q1 q2 => absurd q1 (by omega), fun h q1 q2 => absurd q1 (by omega), HC.out, MRg.refl _ _ _ _⟩
   case round =>
    obtain ⟨i, j, rfl, rfl, h1, h2, h3, hlo, hhi, hc, hm⟩ := hrel
    have HM := hide hm
    have HC2 := hide hc
    have HLO := hide hlo
    have HHI := hide hhi
    clear hc hm hlo hhi HC
    by_cases hij : i < j
    ·have hd : decide ((i : Int) < (j : Int)) = true := decide_eq_true (by omega)
     have ws : IntKind.i64.wrap ((i : Int) + (j : Int)) = (i : Int) + (j : Int) := wrap_small _ (by omega) (by omega)
     obtain ⟨p, Hp⟩ : ∃ p, Hid ((i + j) / 2 = p) := ⟨_, rfl⟩
     have hp1 : i ≤ p ∧ p < j := by have := Hp.out; omega
     have eh : ((i : Int) + (j : Int)) / 2 = (p : Int) := by have := Hp.out; omega
     have b0p : (0 : Int) ≤ (p : Int) := Int.natCast_nonneg _
     have b1p : (p : Int) < (n : Int) := by omega
     have b0m : (0 : Int) ≤ (m : Int) := Int.natCast_nonneg _
     have b1m : (m : Int) < (n : Int) := by omega
     obtain ⟨u0, u1, u2, Hu⟩ : ∃ u0 u1 u2, Hid ((e m).1 = (u0, u1, u2)) := ⟨_, _, _, rfl⟩
     obtain ⟨v0, v1, v2, Hv⟩ : ∃ u0 u1 u2, Hid ((e p).1 = (u0, u1, u2)) := ⟨_, _, _, rfl⟩
     have HSu : Hid (Sx (u0, u1, u2)) := by show Sx (u0, u1, u2); rw [← Hu.out]; exact HG.out.s m (by omega) (by omega)
     have HSv : Hid (Sx (v0, v1, v2)) := by show Sx (v0, v1, v2); rw [← Hv.out]; exact HG.out.s p (by omega) (by omega)
     obtain ⟨c10, c11, c12⟩ := HC2.out m (by omega)
     obtain ⟨c20, c21, c22⟩ := HC2.out p (by omega)
     dsimp only at c10 c11 c12 c20 c21 c22
     rw [Hu.out] at c10 c11 c12
     rw [Hv.out] at c20 c21 c22
     go_wp2_with fail
     have SA : Hid ((fun w' : World => w'.cell? ⟨b, off + m * 3, none⟩ = some (O ι u0) ∧ w'.cell? ⟨b, off + m * 3 + 1, none⟩ = some (.float .f64 u1) ∧ w'.cell? ⟨b, off + m * 3 + 2, none⟩ = some (.float .f64 u2) ∧ w'.cell? ⟨b, off + p * 3, none⟩ = some (O ι v0) ∧ w'.cell? ⟨b, off + p * 3 + 1, none⟩ = some (.float .f64 v1) ∧ w'.cell? ⟨b, off + p * 3 + 2, none⟩ = some (.float .f64 v2)) wr.drew) := ⟨c10, c11, c12, c20, c21, c22⟩
     refine zq (fun ac a' w' => ∃ (y92 y93 y94 y95 y96 y97 y98 y99 y100 y101 y102 : Value), a' = ((((((((((((ac.put (some 92) (y92)).put (some 93) (y93)).put (some 94) (y94)).put (some 95) (y95)).put (some 96) (y96)).put (some 97) (y97)).put (some 98) (y98)).put (some 99) (y99)).put (some 100) (y100)).put (some 101) (y101)).put (some 102) (y102)).put (some 103) (.bool (!lt (u0, u1, u2) (v0, v1, v2)))) ∧ Ext wr w') (S := (fun w' : World => w'.cell? ⟨b, off + m * 3, none⟩ = some (O ι u0) ∧ w'.cell? ⟨b, off + m * 3 + 1, none⟩ = some (.float .f64 u1) ∧ w'.cell? ⟨b, off + m * 3 + 2, none⟩ = some (.float .f64 u2) ∧ w'.cell? ⟨b, off + p * 3, none⟩ = some (O ι v0) ∧ w'.cell? ⟨b, off + p * 3 + 1, none⟩ = some (.float .f64 v1) ∧ w'.cell? ⟨b, off + p * 3 + 2, none⟩ = some (.float .f64 v2))) (late := []) (by kernel_rfl) ?_ ?_
     rotate_left
     ·refine zl27 0 92 (.func (.func gf) #[] cb) rfl (.inl ⟨by kernel_rfl, ?_⟩) SA.out ?_
      ·rintro w' ⟨z0, z1, z2, z3, z4, z5⟩
       go_simp
      simp only [aP, sT, sZ, sS]
      refine zl27 1 93 (σ (some ⟨b, off, none⟩) n cap) rfl (.inl ⟨by kernel_rfl, ?_⟩) SA.out ?_
      ·rintro w' ⟨z0, z1, z2, z3, z4, z5⟩
       go_simp
      simp only [aP, sT, sZ, sS]
      refine zl27 2 94 (O ι m) rfl (.inl ⟨by kernel_rfl, ?_⟩) SA.out ?_
      ·rintro w' ⟨z0, z1, z2, z3, z4, z5⟩
       go_simp
      simp only [aP, sT, sZ, sS]
      refine zl27 3 95 (π (some ⟨b, off + m * 3, none⟩)) rfl (.inl ⟨by kernel_rfl, ?_⟩) SA.out ?_
      ·rintro w' ⟨z0, z1, z2, z3, z4, z5⟩
       go_simp
      simp only [aP, sT, sZ, sS]
      refine zl27 4 96 (γ #[O ι u0, .float .f64 u1, .float .f64 u2]) rfl (.inl ⟨by kernel_rfl, ?_⟩) SA.out ?_
      ·rintro w' ⟨z0, z1, z2, z3, z4, z5⟩
       go_simp
      simp only [aP, sT, sZ, sS]
      refine zl27 5 97 (σ (some ⟨b, off, none⟩) n cap) rfl (.inl ⟨by kernel_rfl, ?_⟩) SA.out ?_
      ·rintro w' ⟨z0, z1, z2, z3, z4, z5⟩
       go_simp
      simp only [aP, sT, sZ, sS]
      refine zl27 6 98 (O ι p) rfl (.inl ⟨by kernel_rfl, ?_⟩) SA.out ?_
      ·rintro w' ⟨z0, z1, z2, z3, z4, z5⟩
       go_simp
      simp only [aP, sT, sZ, sS]
      refine zl27 7 99 (π (some ⟨b, off + p * 3, none⟩)) rfl (.inl ⟨by kernel_rfl, ?_⟩) SA.out ?_
      ·rintro w' ⟨z0, z1, z2, z3, z4, z5⟩
       go_simp
      simp only [aP, sT, sZ, sS]
      refine zl27 8 100 (γ #[O ι v0, .float .f64 v1, .float .f64 v2]) rfl (.inl ⟨by kernel_rfl, ?_⟩) SA.out ?_
      ·rintro w' ⟨z0, z1, z2, z3, z4, z5⟩
       go_simp
      simp only [aP, sT, sZ, sS]
      have HCC := hide (HK.out.call wr.drew (HM.out.ext (Ext.refl wr).drew) (u0, u1, u2) (v0, v1, v2) HSu.out HSv.out)
      refine ze (i := 9) (by kernel_rfl) rfl (fun K hK => ?_)
      go_simp
      refine HCC.out.mono ?_
      rintro e2 t1 ⟨⟨cc, rfl, hcc⟩, xx⟩
      have XW : Hid (Ext wr t1) := (Ext.refl wr).drew.trans xx
      have SB : Hid ((fun w' : World => w'.cell? ⟨b, off + m * 3, none⟩ = some (O ι u0) ∧ w'.cell? ⟨b, off + m * 3 + 1, none⟩ = some (.float .f64 u1) ∧ w'.cell? ⟨b, off + m * 3 + 2, none⟩ = some (.float .f64 u2) ∧ w'.cell? ⟨b, off + p * 3, none⟩ = some (O ι v0) ∧ w'.cell? ⟨b, off + p * 3 + 1, none⟩ = some (.float .f64 v1) ∧ w'.cell? ⟨b, off + p * 3 + 2, none⟩ = some (.float .f64 v2)) t1) := ⟨XW.out.box c10, XW.out.box c11, XW.out.box c12, XW.out.box c20, XW.out.box c21, XW.out.box c22⟩
      clear xx
      refine hK.out _ _ (fun _ => SB.out) ?_
      clear hK K
      try simp only [aP, sT, sZ, sS]
      refine zl27 10 102 (.bool (lt (u0, u1, u2) (v0, v1, v2))) rfl (.inl ⟨by kernel_rfl, ?_⟩) SB.out ?_
      ·rintro w' ⟨z0, z1, z2, z3, z4, z5⟩
       go_simp
      simp only [aP, sT, sZ, sS]
      refine zl27 11 103 (.bool (!lt (u0, u1, u2) (v0, v1, v2))) rfl (.inl ⟨by kernel_rfl, ?_⟩) SB.out ?_
      ·rintro w' ⟨z0, z1, z2, z3, z4, z5⟩
       go_simp
      simp only [aP, sT, sZ, sS]
      refine zg (by kernel_rfl) ?_ _
      exact ⟨rfl, .func (.func gf) #[] cb, σ (some ⟨b, off, none⟩) n cap, O ι m, π (some ⟨b, off + m * 3, none⟩), γ #[O ι u0, .float .f64 u1, .float .f64 u2], σ (some ⟨b, off, none⟩) n cap, O ι p, π (some ⟨b, off + p * 3, none⟩), γ #[O ι v0, .float .f64 v1, .float .f64 v2], O ι cc, .bool (lt (u0, u1, u2) (v0, v1, v2)), by kernel_rfl, XW.out⟩
     rintro a' W1 ⟨y92, y93, y94, y95, y96, y97, y98, y99, y100, y101, y102, rfl, xx⟩
     replace HM := hide (HM.out.ext xx)
     replace HC2 := hide (HC2.out.ext xx)
     clear xx c10 c11 c12 c20 c21 c22 SA
     simp only [aP, sT, sZ, sS]
     cases hl : lt (u0, u1, u2) (v0, v1, v2) with
     | true =>
      have HLT : Hid (lts lt (e m) (e p)) := Or.inl (by rw [Hu.out, Hv.out]; exact hl)
      clear hl
      simp only [Bool.not_true, Bool.not_false]
      go_wp2
      go_roundw
      ·refine ⟨i, p, rfl, rfl, by omega, by omega, by omega, HLO.out, fun h q1 q2 => ?_, HC2.out, HM.out⟩
       by_cases z : h = p
       ·rw [z]; exact HLT.out
       ·have k := HG.out.l p h (by omega) (by omega) (by omega)
        exact HW.out.trans (HG.out.s m (by omega) (by omega)) (HG.out.s p (by omega) (by omega)) (HG.out.s h (by omega) (by omega)) HLT.out k
      ·simp [intOf]; omega
     | false =>
      have HLT : Hid (lts lt (e p) (e m)) := Or.inr ⟨by rw [Hu.out, Hv.out]; exact hl, HG.out.num p m (by omega) (by omega) (by omega) (by omega)⟩
      clear hl
      simp only [Bool.not_true, Bool.not_false]
      go_wp2
      go_roundw
      ·refine ⟨p + 1, j, by go_num, rfl, by omega, by omega, h3, fun h q1 q2 => ?_, HHI.out, HC2.out, HM.out⟩
       by_cases z : h = p
       ·rw [z]; exact HLT.out
       ·have k := HG.out.l h p (by omega) (by omega) (by omega)
        exact HW.out.trans (HG.out.s h (by omega) (by omega)) (HG.out.s p (by omega) (by omega)) (HG.out.s m (by omega) (by omega)) k HLT.out
      ·simp [intOf]; omega
    ·obtain rfl : i = j := by omega
     have hd : decide ((i : Int) < (i : Int)) = false := decide_eq_false (by omega)
     have HC3 : Hid (CF wr b off n (fun z => (e (rot m m bb z)).1)) := HC2.out.congr fun z _ => by rw [zk4]
     have hM0 := HM.out
     go_wp2
     go_loopw [17] (fun u wr => ∃ (k : Nat), u = O ι k ∧ i ≤ k ∧ k ≤ m ∧ CF wr b off n (fun z => (e (rot k m bb z)).1) ∧ MRg b off n w wr) (fun u _ => (intOf u).toNat)
     case atStart => exact ⟨m, rfl, by omega, Nat.le_refl _, HC3.out, hM0⟩
     case round =>
      clear HM HC2 HC3 hM0
      obtain ⟨p, rfl, hp1, hp2, hc, hm⟩ := hrel
      have HM := hide hm
      have HC2 := hide hc
      clear hc hm
      by_cases hpi : i < p
      ·have hd1 : decide ((i : Int) < (p : Int)) = true := decide_eq_true (by omega)
       obtain ⟨q, Hq⟩ : ∃ q, Hid (p - 1 = q) := ⟨_, rfl⟩
       have eq' : (p : Int) - 1 = (q : Int) := by have := Hq.out; omega
       have wq' : IntKind.i64.wrap (q : Int) = (q : Int) := wrap_small _ (by have := Hq.out; omega) (by have := Hq.out; omega)
       have hpn : p < n := by omega
       have hqn : q < n := by have := Hq.out; omega
       have hpq : p ≠ q := by have := Hq.out; omega
       have b0p : (0 : Int) ≤ (p : Int) := Int.natCast_nonneg _
       have b1p : (p : Int) < (n : Int) := by omega
       have b0q : (0 : Int) ≤ (q : Int) := Int.natCast_nonneg _
       have b1q : (q : Int) < (n : Int) := by omega
       obtain ⟨g, Hg⟩ : ∃ g, Hid ((fun z => (e (rot p m bb z)).1) = g) := ⟨_, rfl⟩
       rw [Hg.out] at HC2
       go_wp2_with fail
       obtain ⟨u0, u1, u2, Hu⟩ : ∃ u0 u1 u2, Hid (g p = (u0, u1, u2)) := ⟨_, _, _, rfl⟩
       obtain ⟨v0, v1, v2, Hv⟩ : ∃ u0 u1 u2, Hid (g q = (u0, u1, u2)) := ⟨_, _, _, rfl⟩
       refine zl4 (fun ac a' w' => a' = ((((((((((((((((ac.put (some 113) (σ (some ⟨b, off, none⟩) n cap)).put (some 114) (O ι p)).put (some 115) (σ (some ⟨b, off, none⟩) n cap)).put (some 116) (O ι p)).put (some 117) (O ι q)).put (some 118) (σ (some ⟨b, off, none⟩) n cap)).put (some 119) (O ι p)).put (some 120) (O ι q)).put (some 121) (π (some ⟨b, off + q * 3, none⟩))).put (some 123) (σ (some ⟨b, off, none⟩) n cap)).put (some 124) (O ι p)).put (some 125) (π (some ⟨b, off + p * 3, none⟩))).put (some 122) (γ #[O ι v0, .float .f64 v1, .float .f64 v2])).put (some 126) (γ #[O ι u0, .float .f64 u1, .float .f64 u2])).put (some 127) (π (some ⟨b, off + p * 3, none⟩))).put (some 128) (π (some ⟨b, off + q * 3, none⟩))) ∧ CF w' b off n (fun z => g (sw1 p q z)) ∧ MRg b off n w w') (S := (fun w' : World => w'.cell? ⟨b, off + p * 3, none⟩ = some (O ι u0) ∧ w'.cell? ⟨b, off + p * 3 + 1, none⟩ = some (.float .f64 u1) ∧ w'.cell? ⟨b, off + p * 3 + 2, none⟩ = some (.float .f64 u2) ∧ w'.cell? ⟨b, off + q * 3, none⟩ = some (O ι v0) ∧ w'.cell? ⟨b, off + q * 3 + 1, none⟩ = some (.float .f64 v1) ∧ w'.cell? ⟨b, off + q * 3 + 2, none⟩ = some (.float .f64 v2))) (T := (fun _ : World => True)) (late := [15, 17]) (by kernel_rfl) ?_ ?_
       rotate_left
       ·have X0 : Ext wr wr.drew := (Ext.refl wr).drew
        replace HC2 := hide (HC2.out.ext X0)
        replace HM := hide (HM.out.ext X0)
        clear X0
        generalize wr.drew = t0 at HC2 HM ⊢
        have fz := HF.out t0 HM.out
        have HSW := hide (HC2.out.swap hpn hqn)
        have HMM := hide ((HM.out.st3 hpn (g q)).st3 hqn (g p))
        obtain ⟨c10, c11, c12⟩ := HC2.out p hpn
        obtain ⟨c20, c21, c22⟩ := HC2.out q hqn
        rw [Hu.out] at c10 c11 c12 HSW HMM
        rw [Hv.out] at c20 c21 c22 HSW HMM
        have k0 := zt1 (c := (v0, v1, v2)) (o := off + p * 3) (by omega) c20
        have k1 := zt1 (c := (v0, v1, v2)) (o := off + p * 3) (by omega) c21
        have k2 := zt1 (c := (v0, v1, v2)) (o := off + p * 3) (by omega) c22
        simp only [st3] at k0 k1 k2 c10 c11 c12 c20 c21 c22 HSW HMM
        have SA : Hid ((fun w' : World => w'.cell? ⟨b, off + p * 3, none⟩ = some (O ι u0) ∧ w'.cell? ⟨b, off + p * 3 + 1, none⟩ = some (.float .f64 u1) ∧ w'.cell? ⟨b, off + p * 3 + 2, none⟩ = some (.float .f64 u2) ∧ w'.cell? ⟨b, off + q * 3, none⟩ = some (O ι v0) ∧ w'.cell? ⟨b, off + q * 3 + 1, none⟩ = some (.float .f64 v1) ∧ w'.cell? ⟨b, off + q * 3 + 2, none⟩ = some (.float .f64 v2)) t0) := ⟨c10, c11, c12, c20, c21, c22⟩
        refine zf (i := 0) (d := 113) (v := σ (some ⟨b, off, none⟩) n cap) rfl (by rfl) (by kernel_rfl) (by kernel_rfl) (fun _ _ _ h => by cases h.1) _ (by kernel_rfl) (by kernel_rfl) (Or.inl ⟨by kernel_rfl, ?_⟩) trivial (fun _ => SA.out) ?_
        ·intro w' h
         go_simp
        simp only [aP, sT, sZ, sS]
        refine zf (i := 1) (d := 114) (v := O ι p) rfl (by rfl) (by kernel_rfl) (by kernel_rfl) (fun _ _ _ h => by cases h.1) _ (by kernel_rfl) (by kernel_rfl) (Or.inl ⟨by kernel_rfl, ?_⟩) trivial (fun _ => SA.out) ?_
        ·intro w' h
         go_simp
        simp only [aP, sT, sZ, sS]
        refine zf (i := 2) (d := 115) (v := σ (some ⟨b, off, none⟩) n cap) rfl (by rfl) (by kernel_rfl) (by kernel_rfl) (fun _ _ _ h => by cases h.1) _ (by kernel_rfl) (by kernel_rfl) (Or.inl ⟨by kernel_rfl, ?_⟩) trivial (fun _ => SA.out) ?_
        ·intro w' h
         go_simp
        simp only [aP, sT, sZ, sS]
        refine zf (i := 3) (d := 116) (v := O ι p) rfl (by rfl) (by kernel_rfl) (by kernel_rfl) (fun _ _ _ h => by cases h.1) _ (by kernel_rfl) (by kernel_rfl) (Or.inl ⟨by kernel_rfl, ?_⟩) trivial (fun _ => SA.out) ?_
        ·intro w' h
         go_simp
        simp only [aP, sT, sZ, sS]
        refine zf (i := 4) (d := 117) (v := O ι q) rfl (by rfl) (by kernel_rfl) (by kernel_rfl) (fun _ _ _ h => by cases h.1) _ (by kernel_rfl) (by kernel_rfl) (Or.inl ⟨by kernel_rfl, ?_⟩) trivial (fun _ => SA.out) ?_
        ·intro w' h
         go_simp
        simp only [aP, sT, sZ, sS]
        refine zf (i := 5) (d := 118) (v := σ (some ⟨b, off, none⟩) n cap) rfl (by rfl) (by kernel_rfl) (by kernel_rfl) (fun _ _ _ h => by cases h.1) _ (by kernel_rfl) (by kernel_rfl) (Or.inl ⟨by kernel_rfl, ?_⟩) trivial (fun _ => SA.out) ?_
        ·intro w' h
         go_simp
        simp only [aP, sT, sZ, sS]
        refine zf (i := 6) (d := 119) (v := O ι p) rfl (by rfl) (by kernel_rfl) (by kernel_rfl) (fun _ _ _ h => by cases h.1) _ (by kernel_rfl) (by kernel_rfl) (Or.inl ⟨by kernel_rfl, ?_⟩) trivial (fun _ => SA.out) ?_
        ·intro w' h
         go_simp
        simp only [aP, sT, sZ, sS]
        refine zf (i := 7) (d := 120) (v := O ι q) rfl (by rfl) (by kernel_rfl) (by kernel_rfl) (fun _ _ _ h => by cases h.1) _ (by kernel_rfl) (by kernel_rfl) (Or.inl ⟨by kernel_rfl, ?_⟩) trivial (fun _ => SA.out) ?_
        ·intro w' h
         go_simp
        simp only [aP, sT, sZ, sS]
        refine zf (i := 8) (d := 121) (v := π (some ⟨b, off + q * 3, none⟩)) rfl (by rfl) (by kernel_rfl) (by kernel_rfl) (fun _ _ _ h => by cases h.1) _ (by kernel_rfl) (by kernel_rfl) (Or.inl ⟨by kernel_rfl, ?_⟩) trivial (fun _ => SA.out) ?_
        ·intro w' h
         go_simp
        simp only [aP, sT, sZ, sS]
        refine zf (i := 10) (d := 123) (v := σ (some ⟨b, off, none⟩) n cap) rfl (by rfl) (by kernel_rfl) (by kernel_rfl) (fun _ _ _ h => by cases h.1) _ (by kernel_rfl) (by kernel_rfl) (Or.inl ⟨by kernel_rfl, ?_⟩) trivial (fun _ => SA.out) ?_
        ·intro w' h
         go_simp
        simp only [aP, sT, sZ, sS]
        refine zf (i := 11) (d := 124) (v := O ι p) rfl (by rfl) (by kernel_rfl) (by kernel_rfl) (fun _ _ _ h => by cases h.1) _ (by kernel_rfl) (by kernel_rfl) (Or.inl ⟨by kernel_rfl, ?_⟩) trivial (fun _ => SA.out) ?_
        ·intro w' h
         go_simp
        simp only [aP, sT, sZ, sS]
        refine zf (i := 12) (d := 125) (v := π (some ⟨b, off + p * 3, none⟩)) rfl (by rfl) (by kernel_rfl) (by kernel_rfl) (fun _ _ _ h => by cases h.1) _ (by kernel_rfl) (by kernel_rfl) (Or.inl ⟨by kernel_rfl, ?_⟩) trivial (fun _ => SA.out) ?_
        ·intro w' h
         go_simp
        simp only [aP, sT, sZ, sS]
        refine zj1 (i := 9) (d := 122) (v := γ #[O ι v0, .float .f64 v1, .float .f64 v2]) rfl (by rfl) (by kernel_rfl) (by kernel_rfl) (by kernel_rfl) (fun _ _ _ h => by cases h.1) _ (by kernel_rfl) (by kernel_rfl) (by kernel_rfl) (Or.inl ⟨by kernel_rfl, ?_⟩) trivial SA.out ?_
        ·rintro w' ⟨z0, z1, z2, z3, z4, z5⟩
         go_simp
        simp only [aP, sT, sZ, sS]
        refine zj1 (i := 13) (d := 126) (v := γ #[O ι u0, .float .f64 u1, .float .f64 u2]) rfl (by rfl) (by kernel_rfl) (by kernel_rfl) (by kernel_rfl) (fun _ _ _ h => by cases h.1) _ (by kernel_rfl) (by kernel_rfl) (by kernel_rfl) (Or.inl ⟨by kernel_rfl, ?_⟩) trivial SA.out ?_
        ·rintro w' ⟨z0, z1, z2, z3, z4, z5⟩
         go_simp
        simp only [aP, sT, sZ, sS]
        refine zf (i := 14) (d := 127) (v := π (some ⟨b, off + p * 3, none⟩)) rfl (by rfl) (by kernel_rfl) (by kernel_rfl) (fun _ _ _ h => by cases h.1) _ (by kernel_rfl) (by kernel_rfl) (Or.inl ⟨by kernel_rfl, ?_⟩) trivial (fun _ => SA.out) ?_
        ·intro w' h
         go_simp
        simp only [aP, sT, sZ, sS]
        refine zu1 (i := 15) (by kernel_rfl) rfl (fun K hK => ?_)
        go_simp
        refine hK.out _ _ trivial (fun h => absurd (show true = false from h.symm.trans (by kernel_rfl)) Bool.noConfusion) ?_
        clear hK K
        try simp only [aP, sT, sZ, sS]
        refine zf (i := 16) (d := 128) (v := π (some ⟨b, off + q * 3, none⟩)) rfl (by rfl) (by kernel_rfl) (by kernel_rfl) (fun _ _ _ h => by cases h.1) _ (by kernel_rfl) (by kernel_rfl) (Or.inl ⟨by kernel_rfl, ?_⟩) trivial (fun h => absurd (show true = false from h.symm.trans (by kernel_rfl)) Bool.noConfusion) ?_
        ·intro w' h
         go_simp
        simp only [aP, sT, sZ, sS]
        refine zu1 (i := 17) (by kernel_rfl) rfl (fun K hK => ?_)
        go_simp
        refine hK.out _ _ trivial (fun h => absurd (show true = false from h.symm.trans (by kernel_rfl)) Bool.noConfusion) ?_
        clear hK K
        try simp only [aP, sT, sZ, sS]
        refine zh3 (by kernel_rfl) ?_ _
        exact ⟨rfl, by kernel_rfl, HSW.out, HMM.out⟩
       rintro a' W2 ⟨rfl, hc, hm⟩
       have HC3 := hide hc
       have HM3 := hide hm
       clear hc hm HC2 HM
       simp only [aP, sT, sZ, sS]
       go_wp2
       refine ⟨⟨q, by go_num, by have := Hq.out; omega, by have := Hq.out; omega, HC3.out.congr fun z _ => ?_, HM3.out⟩, ?_⟩
       ·rw [← Hg.out, ← Hq.out, Hb.out]
        show _ = (e (rot p m (m + 1) (sw1 p (p - 1) z))).1
        rw [zg15 hp2 (by omega)]
       ·have := Hq.out
        simp [intOf]; omega
      ·have hd1 : decide ((i : Int) < (p : Int)) = false := decide_eq_false (by omega)
       go_wp2
       have hpi2 : p = i := by omega
       have HRES : Hid (SmOk lt b off n a bb e w (.returned (.tuple #[])) wr) := by
        refine ⟨rfl, rot i m bb, ?_, HC2.out.congr fun z _ => by rw [hpi2], HM.out⟩
        have hb := Hb.out
        subst hb
        exact zt23 HG.out h1 (by omega) HLO.out HHI.out
       first | exact bodyPost_end (results_none rfl _ _ _) rfl HRES.out | exact bodyPost_ret (results_none rfl _ _ _) rfl HRES.out
  have hne : ((m : Int) - (a : Int) == 1) = false := beq_eq_false_iff_ne.2 (by omega)
  have hne2 : ((bb : Int) - (m : Int) == 1) = false := beq_eq_false_iff_ne.2 (by omega)
  obtain ⟨mid, Hmid⟩ : ∃ mid, Hid ((a + bb) / 2 = mid) := ⟨_, rfl⟩
  have emid : ((a : Int) + (bb : Int)) / 2 = (mid : Int) := by have := Hmid.out; omega
  have ws0 : IntKind.i64.wrap ((a : Int) + (bb : Int)) = (a : Int) + (bb : Int) := wrap_small _ (by omega) (by omega)
  have hmid : a < mid ∧ mid < bb ∧ mid + mid ≤ a + bb ∧ a + bb ≤ mid + mid + 1 := by have := Hmid.out; omega
  obtain ⟨nn, Hnn⟩ : ∃ nn, Hid (mid + m = nn) := ⟨_, rfl⟩
  have enn : (mid : Int) + (m : Int) = (nn : Int) := by have := Hnn.out; omega
  have wnn : IntKind.i64.wrap (nn : Int) = (nn : Int) := wrap_small _ (by have := Hnn.out; omega) (by have := Hnn.out; omega)
  obtain ⟨pp, Hpp⟩ : ∃ pp, Hid (nn - 1 = pp) := ⟨_, rfl⟩
  have hppe : pp = mid + m - 1 := by have := Hpp.out; have := Hnn.out; omega
  have epp : (nn : Int) - 1 = (pp : Int) := by have := Hpp.out; have := Hnn.out; omega
  have wpp : IntKind.i64.wrap (pp : Int) = (pp : Int) := wrap_small _ (by omega) (by omega)
  have HPPE := hide hppe
  clear hppe
  have HLOOP : Hid (∀ s0 r0 : Nat, SpC a m bb mid s0 r0 → s0 ≤ r0 ∧ a ≤ s0 ∧ r0 ≤ m ∧ (∀ c, s0 ≤ c → c < r0 → m ≤ pp - c ∧ pp - c < bb ∧ c ≤ pp)) := fun s0 r0 hc => by
   have := HPPE.out
   unfold SpC at hc
   refine ⟨by omega, by omega, by omega, fun c q1 q2 => by omega⟩
  have HPART : Hid (∀ s0 r0 s : Nat, SpC a m bb mid s0 r0 → Sp lt e s0 r0 pp s s → Pt lt a m bb s (nn - s) mid e) := fun s0 r0 s hc hs => by
   unfold SpC at hc
   rw [HPPE.out] at hs
   rw [← Hnn.out]
   exact hs.part HW.out HG.out (by omega) (by omega)
  go_enter Tryz.func134, Tryz.ntmps134
  by_cases hmm : mid < m
  ·have hd : decide ((mid : Int) < (m : Int)) = true := decide_eq_true (by omega)
   obtain ⟨s0, Hs0⟩ : ∃ s0, Hid (mid + m - bb = s0) := ⟨_, rfl⟩
   have es0 : (nn : Int) - (bb : Int) = (s0 : Int) := by have := Hs0.out; have := Hnn.out; omega
   have wz0 : IntKind.i64.wrap (s0 : Int) = (s0 : Int) := wrap_small _ (by have := Hs0.out; omega) (by have := Hs0.out; omega)
   have HCS : Hid (SpC a m bb mid s0 mid) := Or.inl ⟨hmm, Hs0.out.symm, rfl⟩
   go_wp2
   go_loopw [20, 21] (fun u v wr => ∃ (s r : Nat), u = O ι s ∧ v = O ι r ∧ Sp lt e s0 mid pp s r ∧ CF wr b off n (fun i => (e i).1) ∧ MRg b off n w wr) (fun u v _ => (intOf v).toNat - (intOf u).toNat)
   case atStart => exact ⟨s0, mid, rfl, rfl, Sp.start _ _ (HLOOP.out _ _ HCS.out).1, HC.out, MRg.refl _ _ _ _⟩
   case round =>
    obtain ⟨s, r, rfl, rfl, hsp, hc, hm⟩ := hrel
    obtain ⟨l1, l2, l3, l4⟩ := HLOOP.out _ _ HCS.out
    have L4 := hide l4
    have HSP := hide hsp
    have k1 := hsp.lo
    have k2 := hsp.sr
    have k3 := hsp.hi
    have HM := hide hm
    have HC2 := hide hc
    clear hc hm HC hsp l4
    by_cases hij : s < r
    ·have hd2 : decide ((s : Int) < (r : Int)) = true := decide_eq_true (by omega)
     have ws : IntKind.i64.wrap ((s : Int) + (r : Int)) = (s : Int) + (r : Int) := wrap_small _ (by omega) (by omega)
     obtain ⟨c, Hc⟩ : ∃ c, Hid ((s + r) / 2 = c) := ⟨_, rfl⟩
     have hc1 : s ≤ c ∧ c < r := by have := Hc.out; omega
     have eh : ((s : Int) + (r : Int)) / 2 = (c : Int) := by have := Hc.out; omega
     have l5 := L4.out c (by omega) (by omega)
     obtain ⟨d, Hd⟩ : ∃ d, Hid (pp - c = d) := ⟨_, rfl⟩
     have ed : (pp : Int) - (c : Int) = (d : Int) := by have := Hd.out; omega
     have hdr : m ≤ d ∧ d < bb := by have := Hd.out; omega
     have wd : IntKind.i64.wrap (d : Int) = (d : Int) := wrap_small _ (by omega) (by omega)
     clear l5
     have b0c : (0 : Int) ≤ (c : Int) := Int.natCast_nonneg _
     have b1c : (c : Int) < (n : Int) := by omega
     have b0d : (0 : Int) ≤ (d : Int) := Int.natCast_nonneg _
     have b1d : (d : Int) < (n : Int) := by omega
     obtain ⟨u0, u1, u2, Hu⟩ : ∃ u0 u1 u2, Hid ((e d).1 = (u0, u1, u2)) := ⟨_, _, _, rfl⟩
     obtain ⟨v0, v1, v2, Hv⟩ : ∃ u0 u1 u2, Hid ((e c).1 = (u0, u1, u2)) := ⟨_, _, _, rfl⟩
     have HSu : Hid (Sx (u0, u1, u2)) := by show Sx (u0, u1, u2); rw [← Hu.out]; exact HG.out.s d (by omega) (by omega)
     have HSv : Hid (Sx (v0, v1, v2)) := by show Sx (v0, v1, v2); rw [← Hv.out]; exact HG.out.s c (by omega) (by omega)
     obtain ⟨c10, c11, c12⟩ := HC2.out d (by omega)
     obtain ⟨c20, c21, c22⟩ := HC2.out c (by omega)
     dsimp only at c10 c11 c12 c20 c21 c22
     rw [Hu.out] at c10 c11 c12
     rw [Hv.out] at c20 c21 c22
     go_wp2_with fail
     have SA : Hid ((fun w' : World => w'.cell? ⟨b, off + d * 3, none⟩ = some (O ι u0) ∧ w'.cell? ⟨b, off + d * 3 + 1, none⟩ = some (.float .f64 u1) ∧ w'.cell? ⟨b, off + d * 3 + 2, none⟩ = some (.float .f64 u2) ∧ w'.cell? ⟨b, off + c * 3, none⟩ = some (O ι v0) ∧ w'.cell? ⟨b, off + c * 3 + 1, none⟩ = some (.float .f64 v1) ∧ w'.cell? ⟨b, off + c * 3 + 2, none⟩ = some (.float .f64 v2)) wr.drew) := ⟨c10, c11, c12, c20, c21, c22⟩
     refine zq (fun ac a' w' => ∃ (y158 y159 y160 y161 y162 y163 y164 y165 y166 y167 y168 y169 y170 : Value), a' = ((((((((((((((ac.put (some 158) (y158)).put (some 159) (y159)).put (some 160) (y160)).put (some 161) (y161)).put (some 162) (y162)).put (some 163) (y163)).put (some 164) (y164)).put (some 165) (y165)).put (some 166) (y166)).put (some 167) (y167)).put (some 168) (y168)).put (some 169) (y169)).put (some 170) (y170)).put (some 171) (.bool (!lt (u0, u1, u2) (v0, v1, v2)))) ∧ Ext wr w') (S := (fun w' : World => w'.cell? ⟨b, off + d * 3, none⟩ = some (O ι u0) ∧ w'.cell? ⟨b, off + d * 3 + 1, none⟩ = some (.float .f64 u1) ∧ w'.cell? ⟨b, off + d * 3 + 2, none⟩ = some (.float .f64 u2) ∧ w'.cell? ⟨b, off + c * 3, none⟩ = some (O ι v0) ∧ w'.cell? ⟨b, off + c * 3 + 1, none⟩ = some (.float .f64 v1) ∧ w'.cell? ⟨b, off + c * 3 + 2, none⟩ = some (.float .f64 v2))) (late := []) (by kernel_rfl) ?_ ?_
     rotate_left
     ·refine zl27 0 158 (.func (.func gf) #[] cb) rfl (.inl ⟨by kernel_rfl, ?_⟩) SA.out ?_
      ·rintro w' ⟨z0, z1, z2, z3, z4, z5⟩
       go_simp
      simp only [aP, sT, sZ, sS]
      refine zl27 1 159 (σ (some ⟨b, off, none⟩) n cap) rfl (.inl ⟨by kernel_rfl, ?_⟩) SA.out ?_
      ·rintro w' ⟨z0, z1, z2, z3, z4, z5⟩
       go_simp
      simp only [aP, sT, sZ, sS]
      refine zl27 2 160 (O ι pp) rfl (.inl ⟨by kernel_rfl, ?_⟩) SA.out ?_
      ·rintro w' ⟨z0, z1, z2, z3, z4, z5⟩
       go_simp
      simp only [aP, sT, sZ, sS]
      refine zl27 3 161 (O ι c) rfl (.inl ⟨by kernel_rfl, ?_⟩) SA.out ?_
      ·rintro w' ⟨z0, z1, z2, z3, z4, z5⟩
       go_simp
      simp only [aP, sT, sZ, sS]
      refine zl27 4 162 (O ι d) rfl (.inl ⟨by kernel_rfl, ?_⟩) SA.out ?_
      ·rintro w' ⟨z0, z1, z2, z3, z4, z5⟩
       go_simp
      simp only [aP, sT, sZ, sS]
      refine zl27 5 163 (π (some ⟨b, off + d * 3, none⟩)) rfl (.inl ⟨by kernel_rfl, ?_⟩) SA.out ?_
      ·rintro w' ⟨z0, z1, z2, z3, z4, z5⟩
       go_simp
      simp only [aP, sT, sZ, sS]
      refine zl27 6 164 (γ #[O ι u0, .float .f64 u1, .float .f64 u2]) rfl (.inl ⟨by kernel_rfl, ?_⟩) SA.out ?_
      ·rintro w' ⟨z0, z1, z2, z3, z4, z5⟩
       go_simp
      simp only [aP, sT, sZ, sS]
      refine zl27 7 165 (σ (some ⟨b, off, none⟩) n cap) rfl (.inl ⟨by kernel_rfl, ?_⟩) SA.out ?_
      ·rintro w' ⟨z0, z1, z2, z3, z4, z5⟩
       go_simp
      simp only [aP, sT, sZ, sS]
      refine zl27 8 166 (O ι c) rfl (.inl ⟨by kernel_rfl, ?_⟩) SA.out ?_
      ·rintro w' ⟨z0, z1, z2, z3, z4, z5⟩
       go_simp
      simp only [aP, sT, sZ, sS]
      refine zl27 9 167 (π (some ⟨b, off + c * 3, none⟩)) rfl (.inl ⟨by kernel_rfl, ?_⟩) SA.out ?_
      ·rintro w' ⟨z0, z1, z2, z3, z4, z5⟩
       go_simp
      simp only [aP, sT, sZ, sS]
      refine zl27 10 168 (γ #[O ι v0, .float .f64 v1, .float .f64 v2]) rfl (.inl ⟨by kernel_rfl, ?_⟩) SA.out ?_
      ·rintro w' ⟨z0, z1, z2, z3, z4, z5⟩
       go_simp
      simp only [aP, sT, sZ, sS]
      have HCC := hide (HK.out.call wr.drew (HM.out.ext (Ext.refl wr).drew) (u0, u1, u2) (v0, v1, v2) HSu.out HSv.out)
      refine ze (i := 11) (by kernel_rfl) rfl (fun K hK => ?_)
      go_simp
      refine HCC.out.mono ?_
      rintro e2 t1 ⟨⟨cc, rfl, hcc⟩, xx⟩
      have XW : Hid (Ext wr t1) := (Ext.refl wr).drew.trans xx
      have SB : Hid ((fun w' : World => w'.cell? ⟨b, off + d * 3, none⟩ = some (O ι u0) ∧ w'.cell? ⟨b, off + d * 3 + 1, none⟩ = some (.float .f64 u1) ∧ w'.cell? ⟨b, off + d * 3 + 2, none⟩ = some (.float .f64 u2) ∧ w'.cell? ⟨b, off + c * 3, none⟩ = some (O ι v0) ∧ w'.cell? ⟨b, off + c * 3 + 1, none⟩ = some (.float .f64 v1) ∧ w'.cell? ⟨b, off + c * 3 + 2, none⟩ = some (.float .f64 v2)) t1) := ⟨XW.out.box c10, XW.out.box c11, XW.out.box c12, XW.out.box c20, XW.out.box c21, XW.out.box c22⟩
      clear xx
      refine hK.out _ _ (fun _ => SB.out) ?_
      clear hK K
      try simp only [aP, sT, sZ, sS]
      refine zl27 12 170 (.bool (lt (u0, u1, u2) (v0, v1, v2))) rfl (.inl ⟨by kernel_rfl, ?_⟩) SB.out ?_
      ·rintro w' ⟨z0, z1, z2, z3, z4, z5⟩
       go_simp
      simp only [aP, sT, sZ, sS]
      refine zl27 13 171 (.bool (!lt (u0, u1, u2) (v0, v1, v2))) rfl (.inl ⟨by kernel_rfl, ?_⟩) SB.out ?_
      ·rintro w' ⟨z0, z1, z2, z3, z4, z5⟩
       go_simp
      simp only [aP, sT, sZ, sS]
      refine zg (by kernel_rfl) ?_ _
      exact ⟨rfl, .func (.func gf) #[] cb, σ (some ⟨b, off, none⟩) n cap, O ι pp, O ι c, O ι d, π (some ⟨b, off + d * 3, none⟩), γ #[O ι u0, .float .f64 u1, .float .f64 u2], σ (some ⟨b, off, none⟩) n cap, O ι c, π (some ⟨b, off + c * 3, none⟩), γ #[O ι v0, .float .f64 v1, .float .f64 v2], O ι cc, .bool (lt (u0, u1, u2) (v0, v1, v2)), by kernel_rfl, XW.out⟩
     rintro a' W1 ⟨y158, y159, y160, y161, y162, y163, y164, y165, y166, y167, y168, y169, y170, rfl, xx⟩
     replace HM := hide (HM.out.ext xx)
     replace HC2 := hide (HC2.out.ext xx)
     clear xx c10 c11 c12 c20 c21 c22 SA
     simp only [aP, sT, sZ, sS]
     cases hl : lt (u0, u1, u2) (v0, v1, v2) with
     | true =>
      have HLT : Hid (lts lt (e (pp - c)) (e c)) := Or.inl (by rw [Hd.out, Hu.out, Hv.out]; exact hl)
      clear hl
      simp only [Bool.not_true, Bool.not_false]
      go_wp2
      go_roundw
      ·exact ⟨s, c, rfl, rfl, HSP.out.dn HW.out HG.out l2 l3 L4.out (by omega) (by omega) HLT.out, HC2.out, HM.out⟩
      ·simp [intOf]; omega
     | false =>
      have HLT : Hid (lts lt (e c) (e (pp - c))) := Or.inr ⟨by rw [Hd.out, Hu.out, Hv.out]; exact hl, by rw [Hd.out]; exact HG.out.num c d (by omega) (by omega) (by omega) (by omega)⟩
      clear hl
      simp only [Bool.not_true, Bool.not_false]
      go_wp2
      go_roundw
      ·exact ⟨c + 1, r, by go_num, rfl, HSP.out.up HW.out HG.out l2 l3 L4.out (by omega) (by omega) HLT.out, HC2.out, HM.out⟩
      ·simp [intOf]; omega
    ·obtain rfl : s = r := by omega
     have hd2 : decide ((s : Int) < (s : Int)) = false := decide_eq_false (by omega)
     have HPT := hide (HPART.out _ _ s HCS.out HSP.out)
     obtain ⟨t, Ht⟩ : ∃ t, Hid (nn - s = t) := ⟨_, rfl⟩
     rw [Ht.out] at HPT
     have et : (nn : Int) - (s : Int) = (t : Int) := by have := Ht.out; have := Hnn.out; omega
     have wt : IntKind.i64.wrap (t : Int) = (t : Int) := wrap_small _ (by have := HPT.out.tb; omega) (by have := HPT.out.tb; omega)
     have p1 := HPT.out.aS
     have p2 := HPT.out.sm
     have p3 := HPT.out.mt
     have p4 := HPT.out.tb
     have p5 := HPT.out.md
     clear k1 k2 k3 L4 HSP l1 l2 l3
     by_cases hr0 : s < m ∧ m < t
     ·have hd3 : decide ((s : Int) < (m : Int)) = true := decide_eq_true (by omega)
      have hd4 : decide ((m : Int) < (t : Int)) = true := decide_eq_true (by omega)
      have HS := hide (zm8 (cap := cap) (cv := .func (.func gf) #[] cb) (a := s) (m := m) (e := t) HC2.out (HF.out _ HM.out) (by omega) (by omega) (by omega) hn)
      go_wp2_with fail
      refine HS.out.mono ?_
      rintro r9 W3 ⟨rfl, hc, hm⟩
      replace HC2 := hide hc
      replace HM := hide (HM.out.tr hm)
      clear hc hm HS hd3 hd4
      have HG2 := hide (HPT.out.left HG.out)
      rcases (by omega : (a < s ∧ s < mid) ∨ (s = a ∧ s < mid)) with hy | hy
      ·have hd5 : decide ((a : Int) < (s : Int)) = true := decide_eq_true (by omega)
       have hd6 : decide ((s : Int) < (mid : Int)) = true := decide_eq_true (by omega)
       have HS := hide (IH.out W3 a s mid (fun i => e (rot s m t i)) (by omega) HG2.out (by omega) (by omega) (by omega) HC2.out (HF.out _ HM.out) (HK.out.later HM.out))
       have hy1 := hy.1
       have hy2 := hy.2
       go_wp2_with fail
       refine HS.out.mono ?_
       intro r9 W4 hans
       obtain ⟨rfl, r2, hmg, hc, hm⟩ := hans
       have M2 := hide hmg
       replace HC2 := hide hc
       replace HM := hide (HM.out.tr hm)
       clear hc hm hmg HS hd5 hd6
       have HG3 : Hid (Mg Sx lt mid t bb (fun i => e (rot s m t (r2 i)))) := (HPT.out.right HG.out).congr fun i q1 q2 => by rw [M2.out.1.out i (Or.inr q1)]
       rcases (by omega : (mid < t ∧ t < bb) ∨ (mid < t ∧ t = bb)) with hz | hz
       ·have he5 : decide ((mid : Int) < (t : Int)) = true := decide_eq_true (by omega)
        have he6 : decide ((t : Int) < (bb : Int)) = true := decide_eq_true (by omega)
        have HS := hide (IH.out W4 mid t bb (fun i => e (rot s m t (r2 i))) (by omega) HG3.out (by omega) (by omega) (by omega) HC2.out (HF.out _ HM.out) (HK.out.later HM.out))
        obtain ⟨hz1, hz2⟩ := hz
        have HY2 := hide hy
        clear hy
        go_wp2_with fail
        refine HS.out.mono ?_
        intro r9 W5 hans
        obtain ⟨rfl, r3, hmg, hc, hm⟩ := hans
        have M3 := hide hmg
        replace HC2 := hide hc
        replace HM := hide (HM.out.tr hm)
        clear hc hm hmg HS
        have HRES : Hid (SmOk lt b off n a bb e w (.returned (.tuple #[])) W5) := ⟨rfl, _, HPT.out.join HG.out M2.out M3.out, HC2.out, HM.out⟩
        go_wp2
        first | exact bodyPost_end (results_none rfl _ _ _) rfl HRES.out | exact bodyPost_ret (results_none rfl _ _ _) rfl HRES.out
       ·have M3 : Hid (Mgd lt mid bb (fun i => e (rot s m t (r2 i))) (fun i => i)) := by have q := HG3.out; rw [hz.2] at q ⊢; exact q.done_l
        have he5 : decide ((mid : Int) < (t : Int)) = true := decide_eq_true (by omega)
        have he6 : decide ((t : Int) < (bb : Int)) = false := decide_eq_false (by omega)
        have hz1 : mid < t := hz.1
        have hz2 : ¬ t < bb := by omega
        have HZ := hide hz
        have HY2 := hide hy
        clear hz hy
        have HRES : Hid (SmOk lt b off n a bb e w (.returned (.tuple #[])) W4) := ⟨rfl, _, HPT.out.join HG.out M2.out M3.out, HC2.out, HM.out⟩
        go_wp2
        first | exact bodyPost_end (results_none rfl _ _ _) rfl HRES.out | exact bodyPost_ret (results_none rfl _ _ _) rfl HRES.out
      ·have M2 : Hid (Mgd lt a mid (fun i => e (rot s m t i)) (fun i => i)) := by have q := HG2.out; rw [hy.1] at q ⊢; exact q.done_r
       have hd5 : decide ((a : Int) < (s : Int)) = false := decide_eq_false (by omega)
       have hy1 : ¬ a < s := by omega
       have HG3 : Hid (Mg Sx lt mid t bb (fun i => e (rot s m t ((fun i => i) i)))) := (HPT.out.right HG.out).congr fun i q1 q2 => by rw [M2.out.1.out i (Or.inr q1)]
       have hz : (mid < t ∧ t = bb) := by omega
       have M3 : Hid (Mgd lt mid bb (fun i => e (rot s m t ((fun i => i) i))) (fun i => i)) := by have q := HG3.out; rw [hz.2] at q ⊢; exact q.done_l
       have he5 : decide ((mid : Int) < (t : Int)) = true := decide_eq_true (by omega)
       have he6 : decide ((t : Int) < (bb : Int)) = false := decide_eq_false (by omega)
       have hz1 : mid < t := hz.1
       have hz2 : ¬ t < bb := by omega
       have HZ := hide hz
       have HY2 := hide hy
       clear hz hy
       have HRES : Hid (SmOk lt b off n a bb e w (.returned (.tuple #[])) W3) := ⟨rfl, _, HPT.out.join HG.out M2.out M3.out, HC2.out, HM.out⟩
       go_wp2
       first | exact bodyPost_end (results_none rfl _ _ _) rfl HRES.out | exact bodyPost_ret (results_none rfl _ _ _) rfl HRES.out
     ·replace HC2 : Hid (CF wr b off n (fun i => (e (rot s m t i)).1)) := HC2.out.congr fun i _ => by
       rcases (by omega : s = m ∨ m = t) with z | z
       ·rw [z, zk4]
       ·rw [← z, zl9 _ _ _ (by omega)]
      by_cases hr2 : s < m
      ·have hd3 : decide ((s : Int) < (m : Int)) = true := decide_eq_true (by omega)
       have hd4 : decide ((m : Int) < (t : Int)) = false := decide_eq_false (by omega)
       have HG2 := hide (HPT.out.left HG.out)
       have hy : (a < s ∧ s = mid) := by omega
       have M2 : Hid (Mgd lt a mid (fun i => e (rot s m t i)) (fun i => i)) := by have q := HG2.out; rw [hy.2] at q ⊢; exact q.done_l
       have hd5 : decide ((a : Int) < (s : Int)) = true := decide_eq_true (by omega)
       have hd6 : decide ((s : Int) < (mid : Int)) = false := decide_eq_false (by omega)
       have hy1 := hy.1
       have hy2 : ¬ s < mid := by omega
       have HG3 : Hid (Mg Sx lt mid t bb (fun i => e (rot s m t ((fun i => i) i)))) := (HPT.out.right HG.out).congr fun i q1 q2 => by rw [M2.out.1.out i (Or.inr q1)]
       have hz : (mid < t ∧ t < bb) := by omega
       have he5 : decide ((mid : Int) < (t : Int)) = true := decide_eq_true (by omega)
       have he6 : decide ((t : Int) < (bb : Int)) = true := decide_eq_true (by omega)
       have HS := hide (IH.out wr mid t bb (fun i => e (rot s m t ((fun i => i) i))) (by omega) HG3.out (by omega) (by omega) (by omega) HC2.out (HF.out _ HM.out) (HK.out.later HM.out))
       obtain ⟨hz1, hz2⟩ := hz
       have HY2 := hide hy
       clear hy
       go_wp2_with fail
       refine HS.out.mono ?_
       intro r9 W5 hans
       obtain ⟨rfl, r3, hmg, hc, hm⟩ := hans
       have M3 := hide hmg
       replace HC2 := hide hc
       replace HM := hide (HM.out.tr hm)
       clear hc hm hmg HS
       have HRES : Hid (SmOk lt b off n a bb e w (.returned (.tuple #[])) W5) := ⟨rfl, _, HPT.out.join HG.out M2.out M3.out, HC2.out, HM.out⟩
       go_wp2
       first | exact bodyPost_end (results_none rfl _ _ _) rfl HRES.out | exact bodyPost_ret (results_none rfl _ _ _) rfl HRES.out
      ·have hd3 : decide ((s : Int) < (m : Int)) = false := decide_eq_false (by omega)
       exact absurd p5 (by omega)
  ·have hd : decide ((mid : Int) < (m : Int)) = false := decide_eq_false (by omega)
   have HCS : Hid (SpC a m bb mid a m) := Or.inr ⟨by omega, rfl, rfl⟩
   go_wp2
   go_loopw [20, 21] (fun u v wr => ∃ (s r : Nat), u = O ι s ∧ v = O ι r ∧ Sp lt e a m pp s r ∧ CF wr b off n (fun i => (e i).1) ∧ MRg b off n w wr) (fun u v _ => (intOf v).toNat - (intOf u).toNat)
   case atStart => exact ⟨a, m, rfl, rfl, Sp.start _ _ (HLOOP.out _ _ HCS.out).1, HC.out, MRg.refl _ _ _ _⟩
   case round =>
    obtain ⟨s, r, rfl, rfl, hsp, hc, hm⟩ := hrel
    obtain ⟨l1, l2, l3, l4⟩ := HLOOP.out _ _ HCS.out
    have L4 := hide l4
    have HSP := hide hsp
    have k1 := hsp.lo
    have k2 := hsp.sr
    have k3 := hsp.hi
    have HM := hide hm
    have HC2 := hide hc
    clear hc hm HC hsp l4
    by_cases hij : s < r
    ·have hd2 : decide ((s : Int) < (r : Int)) = true := decide_eq_true (by omega)
     have ws : IntKind.i64.wrap ((s : Int) + (r : Int)) = (s : Int) + (r : Int) := wrap_small _ (by omega) (by omega)
     obtain ⟨c, Hc⟩ : ∃ c, Hid ((s + r) / 2 = c) := ⟨_, rfl⟩
     have hc1 : s ≤ c ∧ c < r := by have := Hc.out; omega
     have eh : ((s : Int) + (r : Int)) / 2 = (c : Int) := by have := Hc.out; omega
     have l5 := L4.out c (by omega) (by omega)
     obtain ⟨d, Hd⟩ : ∃ d, Hid (pp - c = d) := ⟨_, rfl⟩
     have ed : (pp : Int) - (c : Int) = (d : Int) := by have := Hd.out; omega
     have hdr : m ≤ d ∧ d < bb := by have := Hd.out; omega
     have wd : IntKind.i64.wrap (d : Int) = (d : Int) := wrap_small _ (by omega) (by omega)
     clear l5
     have b0c : (0 : Int) ≤ (c : Int) := Int.natCast_nonneg _
     have b1c : (c : Int) < (n : Int) := by omega
     have b0d : (0 : Int) ≤ (d : Int) := Int.natCast_nonneg _
     have b1d : (d : Int) < (n : Int) := by omega
     obtain ⟨u0, u1, u2, Hu⟩ : ∃ u0 u1 u2, Hid ((e d).1 = (u0, u1, u2)) := ⟨_, _, _, rfl⟩
     obtain ⟨v0, v1, v2, Hv⟩ : ∃ u0 u1 u2, Hid ((e c).1 = (u0, u1, u2)) := ⟨_, _, _, rfl⟩
     have HSu : Hid (Sx (u0, u1, u2)) := by show Sx (u0, u1, u2); rw [← Hu.out]; exact HG.out.s d (by omega) (by omega)
     have HSv : Hid (Sx (v0, v1, v2)) := by show Sx (v0, v1, v2); rw [← Hv.out]; exact HG.out.s c (by omega) (by omega)
     obtain ⟨c10, c11, c12⟩ := HC2.out d (by omega)
     obtain ⟨c20, c21, c22⟩ := HC2.out c (by omega)
     dsimp only at c10 c11 c12 c20 c21 c22
     rw [Hu.out] at c10 c11 c12
     rw [Hv.out] at c20 c21 c22
     go_wp2_with fail
     have SA : Hid ((fun w' : World => w'.cell? ⟨b, off + d * 3, none⟩ = some (O ι u0) ∧ w'.cell? ⟨b, off + d * 3 + 1, none⟩ = some (.float .f64 u1) ∧ w'.cell? ⟨b, off + d * 3 + 2, none⟩ = some (.float .f64 u2) ∧ w'.cell? ⟨b, off + c * 3, none⟩ = some (O ι v0) ∧ w'.cell? ⟨b, off + c * 3 + 1, none⟩ = some (.float .f64 v1) ∧ w'.cell? ⟨b, off + c * 3 + 2, none⟩ = some (.float .f64 v2)) wr.drew) := ⟨c10, c11, c12, c20, c21, c22⟩
     refine zq (fun ac a' w' => ∃ (y158 y159 y160 y161 y162 y163 y164 y165 y166 y167 y168 y169 y170 : Value), a' = ((((((((((((((ac.put (some 158) (y158)).put (some 159) (y159)).put (some 160) (y160)).put (some 161) (y161)).put (some 162) (y162)).put (some 163) (y163)).put (some 164) (y164)).put (some 165) (y165)).put (some 166) (y166)).put (some 167) (y167)).put (some 168) (y168)).put (some 169) (y169)).put (some 170) (y170)).put (some 171) (.bool (!lt (u0, u1, u2) (v0, v1, v2)))) ∧ Ext wr w') (S := (fun w' : World => w'.cell? ⟨b, off + d * 3, none⟩ = some (O ι u0) ∧ w'.cell? ⟨b, off + d * 3 + 1, none⟩ = some (.float .f64 u1) ∧ w'.cell? ⟨b, off + d * 3 + 2, none⟩ = some (.float .f64 u2) ∧ w'.cell? ⟨b, off + c * 3, none⟩ = some (O ι v0) ∧ w'.cell? ⟨b, off + c * 3 + 1, none⟩ = some (.float .f64 v1) ∧ w'.cell? ⟨b, off + c * 3 + 2, none⟩ = some (.float .f64 v2))) (late := []) (by kernel_rfl) ?_ ?_
     rotate_left
     ·refine zl27 0 158 (.func (.func gf) #[] cb) rfl (.inl ⟨by kernel_rfl, ?_⟩) SA.out ?_
      ·rintro w' ⟨z0, z1, z2, z3, z4, z5⟩
       go_simp
      simp only [aP, sT, sZ, sS]
      refine zl27 1 159 (σ (some ⟨b, off, none⟩) n cap) rfl (.inl ⟨by kernel_rfl, ?_⟩) SA.out ?_
      ·rintro w' ⟨z0, z1, z2, z3, z4, z5⟩
       go_simp
      simp only [aP, sT, sZ, sS]
      refine zl27 2 160 (O ι pp) rfl (.inl ⟨by kernel_rfl, ?_⟩) SA.out ?_
      ·rintro w' ⟨z0, z1, z2, z3, z4, z5⟩
       go_simp
      simp only [aP, sT, sZ, sS]
      refine zl27 3 161 (O ι c) rfl (.inl ⟨by kernel_rfl, ?_⟩) SA.out ?_
      ·rintro w' ⟨z0, z1, z2, z3, z4, z5⟩
       go_simp
      simp only [aP, sT, sZ, sS]
      refine zl27 4 162 (O ι d) rfl (.inl ⟨by kernel_rfl, ?_⟩) SA.out ?_
      ·rintro w' ⟨z0, z1, z2, z3, z4, z5⟩
       go_simp
      simp only [aP, sT, sZ, sS]
      refine zl27 5 163 (π (some ⟨b, off + d * 3, none⟩)) rfl (.inl ⟨by kernel_rfl, ?_⟩) SA.out ?_
      ·rintro w' ⟨z0, z1, z2, z3, z4, z5⟩
       go_simp
      simp only [aP, sT, sZ, sS]
      refine zl27 6 164 (γ #[O ι u0, .float .f64 u1, .float .f64 u2]) rfl (.inl ⟨by kernel_rfl, ?_⟩) SA.out ?_
      ·rintro w' ⟨z0, z1, z2, z3, z4, z5⟩
       go_simp
      simp only [aP, sT, sZ, sS]
      refine zl27 7 165 (σ (some ⟨b, off, none⟩) n cap) rfl (.inl ⟨by kernel_rfl, ?_⟩) SA.out ?_
      ·rintro w' ⟨z0, z1, z2, z3, z4, z5⟩
       go_simp
      simp only [aP, sT, sZ, sS]
      refine zl27 8 166 (O ι c) rfl (.inl ⟨by kernel_rfl, ?_⟩) SA.out ?_
      ·rintro w' ⟨z0, z1, z2, z3, z4, z5⟩
       go_simp
      simp only [aP, sT, sZ, sS]
      refine zl27 9 167 (π (some ⟨b, off + c * 3, none⟩)) rfl (.inl ⟨by kernel_rfl, ?_⟩) SA.out ?_
      ·rintro w' ⟨z0, z1, z2, z3, z4, z5⟩
       go_simp
      simp only [aP, sT, sZ, sS]
      refine zl27 10 168 (γ #[O ι v0, .float .f64 v1, .float .f64 v2]) rfl (.inl ⟨by kernel_rfl, ?_⟩) SA.out ?_
      ·rintro w' ⟨z0, z1, z2, z3, z4, z5⟩
       go_simp
      simp only [aP, sT, sZ, sS]
      have HCC := hide (HK.out.call wr.drew (HM.out.ext (Ext.refl wr).drew) (u0, u1, u2) (v0, v1, v2) HSu.out HSv.out)
      refine ze (i := 11) (by kernel_rfl) rfl (fun K hK => ?_)
      go_simp
      refine HCC.out.mono ?_
      rintro e2 t1 ⟨⟨cc, rfl, hcc⟩, xx⟩
      have XW : Hid (Ext wr t1) := (Ext.refl wr).drew.trans xx
      have SB : Hid ((fun w' : World => w'.cell? ⟨b, off + d * 3, none⟩ = some (O ι u0) ∧ w'.cell? ⟨b, off + d * 3 + 1, none⟩ = some (.float .f64 u1) ∧ w'.cell? ⟨b, off + d * 3 + 2, none⟩ = some (.float .f64 u2) ∧ w'.cell? ⟨b, off + c * 3, none⟩ = some (O ι v0) ∧ w'.cell? ⟨b, off + c * 3 + 1, none⟩ = some (.float .f64 v1) ∧ w'.cell? ⟨b, off + c * 3 + 2, none⟩ = some (.float .f64 v2)) t1) := ⟨XW.out.box c10, XW.out.box c11, XW.out.box c12, XW.out.box c20, XW.out.box c21, XW.out.box c22⟩
      clear xx
      refine hK.out _ _ (fun _ => SB.out) ?_
      clear hK K
      try simp only [aP, sT, sZ, sS]
      refine zl27 12 170 (.bool (lt (u0, u1, u2) (v0, v1, v2))) rfl (.inl ⟨by kernel_rfl, ?_⟩) SB.out ?_
      ·rintro w' ⟨z0, z1, z2, z3, z4, z5⟩
       go_simp
      simp only [aP, sT, sZ, sS]
      refine zl27 13 171 (.bool (!lt (u0, u1, u2) (v0, v1, v2))) rfl (.inl ⟨by kernel_rfl, ?_⟩) SB.out ?_
      ·rintro w' ⟨z0, z1, z2, z3, z4, z5⟩
       go_simp
      simp only [aP, sT, sZ, sS]
      refine zg (by kernel_rfl) ?_ _
      exact ⟨rfl, .func (.func gf) #[] cb, σ (some ⟨b, off, none⟩) n cap, O ι pp, O ι c, O ι d, π (some ⟨b, off + d * 3, none⟩), γ #[O ι u0, .float .f64 u1, .float .f64 u2], σ (some ⟨b, off, none⟩) n cap, O ι c, π (some ⟨b, off + c * 3, none⟩), γ #[O ι v0, .float .f64 v1, .float .f64 v2], O ι cc, .bool (lt (u0, u1, u2) (v0, v1, v2)), by kernel_rfl, XW.out⟩
     rintro a' W1 ⟨y158, y159, y160, y161, y162, y163, y164, y165, y166, y167, y168, y169, y170, rfl, xx⟩
     replace HM := hide (HM.out.ext xx)
     replace HC2 := hide (HC2.out.ext xx)
     clear xx c10 c11 c12 c20 c21 c22 SA
     simp only [aP, sT, sZ, sS]
     cases hl : lt (u0, u1, u2) (v0, v1, v2) with
     | true =>
      have HLT : Hid (lts lt (e (pp - c)) (e c)) := Or.inl (by rw [Hd.out, Hu.out, Hv.out]; exact hl)
      clear hl
      simp only [Bool.not_true, Bool.not_false]
      go_wp2
      go_roundw
      ·exact ⟨s, c, rfl, rfl, HSP.out.dn HW.out HG.out l2 l3 L4.out (by omega) (by omega) HLT.out, HC2.out, HM.out⟩
      ·simp [intOf]; omega
     | false =>
      have HLT : Hid (lts lt (e c) (e (pp - c))) := Or.inr ⟨by rw [Hd.out, Hu.out, Hv.out]; exact hl, by rw [Hd.out]; exact HG.out.num c d (by omega) (by omega) (by omega) (by omega)⟩
      clear hl
      simp only [Bool.not_true, Bool.not_false]
      go_wp2
      go_roundw
      ·exact ⟨c + 1, r, by go_num, rfl, HSP.out.up HW.out HG.out l2 l3 L4.out (by omega) (by omega) HLT.out, HC2.out, HM.out⟩
      ·simp [intOf]; omega
    ·obtain rfl : s = r := by omega
     have hd2 : decide ((s : Int) < (s : Int)) = false := decide_eq_false (by omega)
     have HPT := hide (HPART.out _ _ s HCS.out HSP.out)
     obtain ⟨t, Ht⟩ : ∃ t, Hid (nn - s = t) := ⟨_, rfl⟩
     rw [Ht.out] at HPT
     have et : (nn : Int) - (s : Int) = (t : Int) := by have := Ht.out; have := Hnn.out; omega
     have wt : IntKind.i64.wrap (t : Int) = (t : Int) := wrap_small _ (by have := HPT.out.tb; omega) (by have := HPT.out.tb; omega)
     have p1 := HPT.out.aS
     have p2 := HPT.out.sm
     have p3 := HPT.out.mt
     have p4 := HPT.out.tb
     have p5 := HPT.out.md
     clear k1 k2 k3 L4 HSP l1 l2 l3
     by_cases hr0 : s < m ∧ m < t
     ·have hd3 : decide ((s : Int) < (m : Int)) = true := decide_eq_true (by omega)
      have hd4 : decide ((m : Int) < (t : Int)) = true := decide_eq_true (by omega)
      have HS := hide (zm8 (cap := cap) (cv := .func (.func gf) #[] cb) (a := s) (m := m) (e := t) HC2.out (HF.out _ HM.out) (by omega) (by omega) (by omega) hn)
      go_wp2_with fail
      refine HS.out.mono ?_
      rintro r9 W3 ⟨rfl, hc, hm⟩
      replace HC2 := hide hc
      replace HM := hide (HM.out.tr hm)
      clear hc hm HS hd3 hd4
      have HG2 := hide (HPT.out.left HG.out)
      rcases (by omega : (a < s ∧ s < mid) ∨ (s = a ∧ s < mid)) with hy | hy
      ·have hd5 : decide ((a : Int) < (s : Int)) = true := decide_eq_true (by omega)
       have hd6 : decide ((s : Int) < (mid : Int)) = true := decide_eq_true (by omega)
       have HS := hide (IH.out W3 a s mid (fun i => e (rot s m t i)) (by omega) HG2.out (by omega) (by omega) (by omega) HC2.out (HF.out _ HM.out) (HK.out.later HM.out))
       have hy1 := hy.1
       have hy2 := hy.2
       go_wp2_with fail
       refine HS.out.mono ?_
       intro r9 W4 hans
       obtain ⟨rfl, r2, hmg, hc, hm⟩ := hans
       have M2 := hide hmg
       replace HC2 := hide hc
       replace HM := hide (HM.out.tr hm)
       clear hc hm hmg HS hd5 hd6
       have HG3 : Hid (Mg Sx lt mid t bb (fun i => e (rot s m t (r2 i)))) := (HPT.out.right HG.out).congr fun i q1 q2 => by rw [M2.out.1.out i (Or.inr q1)]
       have hz : (mid < t ∧ t < bb) := by omega
       have he5 : decide ((mid : Int) < (t : Int)) = true := decide_eq_true (by omega)
       have he6 : decide ((t : Int) < (bb : Int)) = true := decide_eq_true (by omega)
       have HS := hide (IH.out W4 mid t bb (fun i => e (rot s m t (r2 i))) (by omega) HG3.out (by omega) (by omega) (by omega) HC2.out (HF.out _ HM.out) (HK.out.later HM.out))
       obtain ⟨hz1, hz2⟩ := hz
       have HY2 := hide hy
       clear hy
       go_wp2_with fail
       refine HS.out.mono ?_
       intro r9 W5 hans
       obtain ⟨rfl, r3, hmg, hc, hm⟩ := hans
       have M3 := hide hmg
       replace HC2 := hide hc
       replace HM := hide (HM.out.tr hm)
       clear hc hm hmg HS
       have HRES : Hid (SmOk lt b off n a bb e w (.returned (.tuple #[])) W5) := ⟨rfl, _, HPT.out.join HG.out M2.out M3.out, HC2.out, HM.out⟩
       go_wp2
       first | exact bodyPost_end (results_none rfl _ _ _) rfl HRES.out | exact bodyPost_ret (results_none rfl _ _ _) rfl HRES.out
      ·have M2 : Hid (Mgd lt a mid (fun i => e (rot s m t i)) (fun i => i)) := by have q := HG2.out; rw [hy.1] at q ⊢; exact q.done_r
       have hd5 : decide ((a : Int) < (s : Int)) = false := decide_eq_false (by omega)
       have hy1 : ¬ a < s := by omega
       have HG3 : Hid (Mg Sx lt mid t bb (fun i => e (rot s m t ((fun i => i) i)))) := (HPT.out.right HG.out).congr fun i q1 q2 => by rw [M2.out.1.out i (Or.inr q1)]
       rcases (by omega : (mid < t ∧ t < bb) ∨ (mid < t ∧ t = bb)) with hz | hz
       ·have he5 : decide ((mid : Int) < (t : Int)) = true := decide_eq_true (by omega)
        have he6 : decide ((t : Int) < (bb : Int)) = true := decide_eq_true (by omega)
        have HS := hide (IH.out W3 mid t bb (fun i => e (rot s m t ((fun i => i) i))) (by omega) HG3.out (by omega) (by omega) (by omega) HC2.out (HF.out _ HM.out) (HK.out.later HM.out))
        obtain ⟨hz1, hz2⟩ := hz
        have HY2 := hide hy
        clear hy
        go_wp2_with fail
        refine HS.out.mono ?_
        intro r9 W5 hans
        obtain ⟨rfl, r3, hmg, hc, hm⟩ := hans
        have M3 := hide hmg
        replace HC2 := hide hc
        replace HM := hide (HM.out.tr hm)
        clear hc hm hmg HS
        have HRES : Hid (SmOk lt b off n a bb e w (.returned (.tuple #[])) W5) := ⟨rfl, _, HPT.out.join HG.out M2.out M3.out, HC2.out, HM.out⟩
        go_wp2
        first | exact bodyPost_end (results_none rfl _ _ _) rfl HRES.out | exact bodyPost_ret (results_none rfl _ _ _) rfl HRES.out
       ·have M3 : Hid (Mgd lt mid bb (fun i => e (rot s m t ((fun i => i) i))) (fun i => i)) := by have q := HG3.out; rw [hz.2] at q ⊢; exact q.done_l
        have he5 : decide ((mid : Int) < (t : Int)) = true := decide_eq_true (by omega)
        have he6 : decide ((t : Int) < (bb : Int)) = false := decide_eq_false (by omega)
        have hz1 : mid < t := hz.1
        have hz2 : ¬ t < bb := by omega
        have HZ := hide hz
        have HY2 := hide hy
        clear hz hy
        have HRES : Hid (SmOk lt b off n a bb e w (.returned (.tuple #[])) W3) := ⟨rfl, _, HPT.out.join HG.out M2.out M3.out, HC2.out, HM.out⟩
        go_wp2
        first | exact bodyPost_end (results_none rfl _ _ _) rfl HRES.out | exact bodyPost_ret (results_none rfl _ _ _) rfl HRES.out
     ·replace HC2 : Hid (CF wr b off n (fun i => (e (rot s m t i)).1)) := HC2.out.congr fun i _ => by
       rcases (by omega : s = m ∨ m = t) with z | z
       ·rw [z, zk4]
       ·rw [← z, zl9 _ _ _ (by omega)]
      by_cases hr2 : s < m
      ·have hd3 : decide ((s : Int) < (m : Int)) = true := decide_eq_true (by omega)
       have hd4 : decide ((m : Int) < (t : Int)) = false := decide_eq_false (by omega)
       exact absurd p5 (by omega)
      ·have hd3 : decide ((s : Int) < (m : Int)) = false := decide_eq_false (by omega)
       have HG2 := hide (HPT.out.left HG.out)
       rcases (by omega : (a < s ∧ s < mid) ∨ (a < s ∧ s = mid)) with hy | hy
       ·have hd5 : decide ((a : Int) < (s : Int)) = true := decide_eq_true (by omega)
        have hd6 : decide ((s : Int) < (mid : Int)) = true := decide_eq_true (by omega)
        have HS := hide (IH.out wr a s mid (fun i => e (rot s m t i)) (by omega) HG2.out (by omega) (by omega) (by omega) HC2.out (HF.out _ HM.out) (HK.out.later HM.out))
        have hy1 := hy.1
        have hy2 := hy.2
        go_wp2_with fail
        refine HS.out.mono ?_
        intro r9 W4 hans
        obtain ⟨rfl, r2, hmg, hc, hm⟩ := hans
        have M2 := hide hmg
        replace HC2 := hide hc
        replace HM := hide (HM.out.tr hm)
        clear hc hm hmg HS hd5 hd6
        have HG3 : Hid (Mg Sx lt mid t bb (fun i => e (rot s m t (r2 i)))) := (HPT.out.right HG.out).congr fun i q1 q2 => by rw [M2.out.1.out i (Or.inr q1)]
        have hz : t = mid := by omega
        have M3 : Hid (Mgd lt mid bb (fun i => e (rot s m t (r2 i))) (fun i => i)) := by have q := HG3.out; rw [hz] at q ⊢; exact q.done_r
        have he5 : decide ((mid : Int) < (t : Int)) = false := decide_eq_false (by omega)
        have hz1 : ¬ mid < t := by omega
        have HZ := hide hz
        have HY2 := hide hy
        clear hz hy
        have HRES : Hid (SmOk lt b off n a bb e w (.returned (.tuple #[])) W4) := ⟨rfl, _, HPT.out.join HG.out M2.out M3.out, HC2.out, HM.out⟩
        go_wp2
        first | exact bodyPost_end (results_none rfl _ _ _) rfl HRES.out | exact bodyPost_ret (results_none rfl _ _ _) rfl HRES.out
       ·have M2 : Hid (Mgd lt a mid (fun i => e (rot s m t i)) (fun i => i)) := by have q := HG2.out; rw [hy.2] at q ⊢; exact q.done_l
        have hd5 : decide ((a : Int) < (s : Int)) = true := decide_eq_true (by omega)
        have hd6 : decide ((s : Int) < (mid : Int)) = false := decide_eq_false (by omega)
        have hy1 := hy.1
        have hy2 : ¬ s < mid := by omega
        have HG3 : Hid (Mg Sx lt mid t bb (fun i => e (rot s m t ((fun i => i) i)))) := (HPT.out.right HG.out).congr fun i q1 q2 => by rw [M2.out.1.out i (Or.inr q1)]
        have hz : t = mid := by omega
        have M3 : Hid (Mgd lt mid bb (fun i => e (rot s m t ((fun i => i) i))) (fun i => i)) := by have q := HG3.out; rw [hz] at q ⊢; exact q.done_r
        have he5 : decide ((mid : Int) < (t : Int)) = false := decide_eq_false (by omega)
        have hz1 : ¬ mid < t := by omega
        have HZ := hide hz
        have HY2 := hide hy
        clear hz hy
        have HRES : Hid (SmOk lt b off n a bb e w (.returned (.tuple #[])) wr) := ⟨rfl, _, HPT.out.join HG.out M2.out M3.out, HC2.out, HM.out⟩
        go_wp2
        first | exact bodyPost_end (results_none rfl _ _ _) rfl HRES.out | exact bodyPost_ret (results_none rfl _ _ _) rfl HRES.out
end
section
section
variable {α : Type} {S : α → Prop} {lt : α → α → Bool}
def tag (f : Nat → α) (i : Nat) : α × Nat := (f i, i)
def Bk (lt : α → α → Bool) (f : Nat → α) (r : Nat → Nat) (x y : Nat) : Prop := Srt lt x y (fun i => tag f (r i)) ∧ ∀ i, x ≤ i → i < y → x ≤ r i ∧ r i < y
theorem Bk.far {f : Nat → α} {r s : Nat → Nat} {x y a b : Nat} (h : Bk lt f r x y) (p : Prm a b s) (k : y ≤ a ∨ b ≤ x) : Bk lt f (fun i => r (s i)) x y := by
 have e : ∀ i, x ≤ i → i < y → s i = i := fun i q1 q2 => p.out i (by omega)
 exact ⟨h.1.same fun i q1 q2 => by show tag f (r (s i)) = _; rw [e i q1 q2], fun i q1 q2 => by show x ≤ r (s i) ∧ r (s i) < y; rw [e i q1 q2]; exact h.2 i q1 q2⟩
theorem Bk.mg {f : Nat → α} {r : Nat → Nat} {a m b : Nat} (h : Bk lt f r a m) (k : Bk lt f r m b) (h1 : a ≤ m) (h2 : m ≤ b) (hs : ∀ i, a ≤ i → i < b → S (f (r i))) : Mg S lt a m b (fun i => tag f (r i)) :=
 ⟨h.1, k.1, fun i j q1 q2 q3 q4 => by
  have u := h.2 i q1 q2
  have v := k.2 j q3 q4
  show r i < r j
  omega, h1, h2, hs⟩
theorem Bk.join {f : Nat → α} {r s : Nat → Nat} {a m b : Nat} (h : Bk lt f r a m) (k : Bk lt f r m b) (h1 : a ≤ m) (h2 : m ≤ b) (g : Mgd lt a b (fun i => tag f (r i)) s) : Bk lt f (fun i => r (s i)) a b :=
 ⟨g.2, fun i q1 q2 => by
  have u := g.1.inn i q1 q2
  show a ≤ r (s i) ∧ r (s i) < b
  by_cases z : s i < m
  ·have := h.2 (s i) u.1 z; omega
  ·have := k.2 (s i) (by omega) u.2; omega⟩
theorem Bk.ins {f : Nat → α} {r s : Nat → Nat} {a b : Nat} (hr : ∀ i, a ≤ i → r i = i) (g : Mgd lt a b (fun i => tag f (r i)) s) : Bk lt f (fun i => r (s i)) a b :=
 ⟨g.2, fun i q1 q2 => by
  have u := g.1.inn i q1 q2
  show a ≤ r (s i) ∧ r (s i) < b
  rw [hr (s i) u.1]; exact u⟩
def Bu (bs c : Nat) (P : Nat → Nat → Prop) : Prop := ∀ k, k < c → P (k * bs) (k * bs + bs)
theorem Bu.zero (bs : Nat) (P : Nat → Nat → Prop) : Bu bs 0 P := fun k hk => absurd hk (by omega)
theorem Bu.up {bs c : Nat} {P Q : Nat → Nat → Prop} (h : Bu bs c P) (hq : ∀ k, k < c → P (k * bs) (k * bs + bs) → Q (k * bs) (k * bs + bs)) (k : Q (c * bs) (c * bs + bs)) : Bu bs (c + 1) Q := fun i hi => by
 by_cases z : i = c
 ·rw [z]; exact k
 ·exact hq i (by omega) (h i (by omega))
def Bs (bs lo n : Nat) (P : Nat → Nat → Prop) : Prop := ∀ k, lo + k * bs < n → P (lo + k * bs) (min (lo + k * bs + bs) n)
theorem Bs.mono {bs lo n : Nat} {P Q : Nat → Nat → Prop} (h : Bs bs lo n P) (hq : ∀ x y, lo ≤ x → y ≤ n → P x y → Q x y) : Bs bs lo n Q := fun k hk => hq _ _ (by omega) (Nat.min_le_right _ _) (h k hk)
theorem Bs.first {bs lo n : Nat} {P : Nat → Nat → Prop} (h : Bs bs lo n P) (hl : lo < n) : P lo (min (lo + bs) n) := by
 have := h 0 (by simpa using hl)
 simpa using this
theorem Bs.rest {bs lo n : Nat} {P : Nat → Nat → Prop} (h : Bs bs lo n P) : Bs bs (lo + bs) n P := fun k hk => by
 have e : lo + bs + k * bs = lo + (k + 1) * bs := by rw [Nat.succ_mul]; omega
 rw [e] at hk ⊢
 exact h (k + 1) hk
theorem Bu.all {bs c n : Nat} {P : Nat → Nat → Prop} (h : Bu bs c P) (hc : c * bs ≤ n) (hn : n ≤ c * bs + bs) (k : c * bs < n → P (c * bs) n) : Bs bs 0 n P := fun i hi => by
 rw [Nat.zero_add] at hi ⊢
 rcases Nat.lt_trichotomy i c with z | z | z
 ·have e : (i + 1) * bs ≤ c * bs := Nat.mul_le_mul_right _ z
  rw [Nat.succ_mul] at e
  rw [Nat.min_eq_left (by omega)]
  exact h i z
 ·subst z
  rw [Nat.min_eq_right (by omega)]
  exact k hi
 ·have e : (c + 1) * bs ≤ i * bs := Nat.mul_le_mul_right _ z
  rw [Nat.succ_mul] at e
  exact absurd hi (by omega)
theorem zu2 {k c bs : Nat} (h : k < c) : k * bs + bs ≤ c * bs := by
 have e : (k + 1) * bs ≤ c * bs := Nat.mul_le_mul_right _ h
 rw [Nat.succ_mul] at e
 exact e
theorem Bs.srt {f : Nat → α} {r : Nat → Nat} {bs n : Nat} (h : Bs bs 0 n (Bk lt f r)) (hb : n ≤ bs) : Srt lt 0 n (fun i => tag f (r i)) := by
 rcases Nat.eq_zero_or_pos n with z | z
 ·subst z; exact fun i j _ _ q => absurd q (by omega)
 ·have := (h.first z).1
  rw [Nat.min_eq_right (by omega)] at this
  exact this
end
end
end Go.Proofs.YtfhcpicddegblaaGreat
