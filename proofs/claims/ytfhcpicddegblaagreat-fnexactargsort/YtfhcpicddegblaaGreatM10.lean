import Derived.Test.YtfhcpicddegblaaGreatM9
import Derived.Test.YtfhcpicddegblaaGreatM8
import Derived.Test.YtfhcpicddegblaaGreatM7
import Derived.Test.YtfhcpicddegblaaGreatM1
import Derived.Test.YtfhcpicddegblaaGreatM3
set_option linter.unusedSimpArgs false
set_option linter.unusedVariables false
set_option maxRecDepth 100000
set_option maxHeartbeats 8000000
namespace Go.Proofs.YtfhcpicddegblaaGreat
open List renaming setIfInBounds_toArray → sT, set_cons_zero → sZ, set_cons_succ → sS
open Go.Value renaming int → O, slice → σ, pointer → π, agg → γ
open Go.IntKind renaming i64 → ι
open Go.Obj renaming cells → χ
open Go.Act renaming put → aP
section
open Go.ChangeShapes Go.RowKit FL
def StOk (lt : C3 → C3 → Bool) (b off n : Nat) (f : Nat → C3) (w : World) (r : Ending) (w' : World) : Prop := r = .returned (.tuple #[]) ∧ ∃ r, Prm 0 n r ∧ Srt lt 0 n (fun i => tag f (r i)) ∧ CF w' b off n (fun i => f (r i)) ∧ MRg b off n w w'
theorem zf16 {w : World} {b off n cap gf : Nat} {cb : Array Value} {Sx : C3 → Prop} {lt : C3 → C3 → Bool} {f : Nat → C3} (eg : ∀ args w, (callFunc gf args).run Tryz.prog w = .ok (.enter gf args) w) (hw : Wk Sx lt) (h : CF w b off n f) (hf : ∀ o, w.frozen? ⟨b, o, none⟩ = false) (hk : CmpK gf cb b off n w Sx lt) (hs : ∀ i, i < n → Sx (f i)) (hn : n ≤ 1048576) :
  Calls Tryz.prog 100 #[σ (some ⟨b, off, none⟩) n cap, O ι n, .func (.func gf) #[] cb] w fun r w' => StOk lt b off n f w r w' := by
 have HC := hide h
 have HK := hide hk
 have HS := hide hs
 have HW := hide hw
 have HF : Hid (∀ W', MRg b off n w W' → ∀ o, W'.frozen? ⟨b, o, none⟩ = false) := fun W' x o => (x.m.fz _).trans (hf o)
 have HSr : Hid (∀ r, Prm 0 n r → ∀ i, i < n → Sx (f (r i))) := fun r p i hi => hs _ (p.inn i (by omega) hi).2
 clear h hf hk hs hw
 go_enter Tryz.func100, Tryz.ntmps100
 go_wp2
 go_loopw [7, 8] (fun u v wr => ∃ (c x y : Nat) (r : Nat → Nat), u = O ι x ∧ v = O ι y ∧ x = c * 20 ∧ y = x + 20 ∧ x ≤ n ∧ Prm 0 n r ∧ (∀ i, x ≤ i → r i = i) ∧ Bu 20 c (Bk lt f r) ∧ CF wr b off n (fun i => f (r i)) ∧ MRg b off n w wr) (fun u v _ => n + 20 - (intOf v).toNat)
 case atStart => exact ⟨0, 0, 20, fun i => i, rfl, rfl, rfl, rfl, by omega, Prm.refl _ _, fun _ _ => rfl, Bu.zero _ _, HC.out, MRg.refl _ _ _ _⟩
 case round =>
  obtain ⟨c, x, y, r, rfl, rfl, hx, hy, hxn, hp, hr, hB, hc, hm⟩ := hrel
  have HM := hide hm
  have HC2 := hide hc
  have HP := hide hp
  have HR := hide hr
  have HB := hide hB
  have HX := hide hx
  have HY := hide hy
  have hxy : x ≤ y := by omega
  have hxy2 : y ≤ x + 20 := by omega
  have wy : IntKind.i64.wrap ((y : Int) + 20) = (y : Int) + 20 := wrap_small _ (by omega) (by omega)
  clear hc hm HC hp hr hB hx hy
  by_cases hyn : y ≤ n
  ·have hd : decide ((y : Int) ≤ (n : Int)) = true := decide_eq_true (by omega)
   have HI := hide (zw4 (cap := cap) (a := x) (bb := y) (e := fun i => tag f (r i)) eg HW.out HC2.out (HF.out _ HM.out) (HK.out.later HM.out) (HSr.out r HP.out) (fun i j q1 q2 q3 => by show r i < r j; rw [HR.out i q1, HR.out j (by omega)]; exact q2) hxy hyn hn)
   go_wp2_with fail
   refine HI.out.mono ?_
   rintro r9 W1 ⟨rfl, s, hmg, hc, hm⟩
   have HC3 := hide hc
   have HM3 := hide (HM.out.tr hm)
   have HG := hide hmg
   clear hc hm hmg HI
   go_wp2
   have HREL : Hid (∃ (c x' y' : Nat) (r : Nat → Nat), Value.int .i64 (y : Int) = O ι x' ∧ Value.int .i64 ((y : Int) + 20) = O ι y' ∧ x' = c * 20 ∧ y' = x' + 20 ∧ x' ≤ n ∧ Prm 0 n r ∧ (∀ i, x' ≤ i → r i = i) ∧ Bu 20 c (Bk lt f r) ∧ CF W1 b off n (fun i => f (r i)) ∧ MRg b off n w W1) := by
    refine ⟨c + 1, y, y + 20, fun i => r (s i), rfl, by go_num, by have := HX.out; have := HY.out; omega, rfl, hyn, HP.out.comp (HG.out.1.wide (by omega) hyn), fun i q => ?_, ?_, HC3.out, HM3.out⟩
    ·show r (s i) = i
     rw [HG.out.1.out i (Or.inr q), HR.out i (by omega)]
    ·have hx := HX.out
     have hy := HY.out
     have q := Bk.ins (fun i q => HR.out i q) HG.out
     rw [hy, hx] at q
     exact HB.out.up (fun k hk z => z.far HG.out.1 (Or.inl (by have := zu2 (bs := 20) hk; omega))) q
   first
    | (go_roundw
       ·exact HREL.out
       ·simp [intOf]; omega)
    | (refine ⟨HREL.out, ?_⟩
       simp [intOf]; omega)
  ·have hd : decide ((y : Int) ≤ (n : Int)) = false := decide_eq_false (by omega)
   have HI := hide (zw4 (cap := cap) (a := x) (bb := n) (e := fun i => tag f (r i)) eg HW.out HC2.out (HF.out _ HM.out) (HK.out.later HM.out) (HSr.out r HP.out) (fun i j q1 q2 q3 => by show r i < r j; rw [HR.out i q1, HR.out j (by omega)]; exact q2) hxn (Nat.le_refl _) hn)
   go_wp2_with fail
   refine HI.out.mono ?_
   rintro r9 W1 ⟨rfl, s, hmg, hc, hm⟩
   have HC3 : Hid (CF W1 b off n (fun i => f (r (s i)))) := hc
   have hM0 := HM.out.tr hm
   have HPs := hide (HP.out.comp (hmg.1.wide (by omega) (Nat.le_refl _)))
   have HBs : Hid (Bs 20 0 n (Bk lt f (fun i => r (s i)))) := by
    have hx := HX.out
    have hy := HY.out
    refine Bu.all (c := c) (fun k hk => (HB.out k hk).far hmg.1 (Or.inl (by have := zu2 (bs := 20) hk; omega))) (by omega) (by omega) (fun q => ?_)
    rw [← hx]
    exact Bk.ins (fun i q => HR.out i q) hmg
   obtain ⟨r0, Hr0⟩ : ∃ r0, Hid ((fun i => r (s i)) = r0) := ⟨_, rfl⟩
   have HC4 : Hid (CF W1 b off n (fun i => f (r0 i))) := by rw [← Hr0.out]; exact HC3.out
   rw [Hr0.out] at HPs HBs
   clear hc hm hmg HI HC3
   go_wp2
   go_loopw [6, 7, 8, 9] (fun x6 x7 x8 x9 wr => ∃ (bs : Nat) (r : Nat → Nat), x6 = O ι bs ∧ 0 < bs ∧ bs ≤ 4194304 ∧ Prm 0 n r ∧ Bs bs 0 n (Bk lt f r) ∧ CF wr b off n (fun i => f (r i)) ∧ MRg b off n w wr) (fun x6 _ _ _ _ => n - (intOf x6).toNat)
   case atStart => exact ⟨20, r0, rfl, by omega, by omega, HPs.out, HBs.out, HC4.out, hM0⟩
   case round =>
    clear HM HC2 HP HR HB HX HY hxy hxy2 wy HC4 HPs HBs hM0 hd
    obtain ⟨bs, r, rfl, hb0, hb1, hp, hB, hc, hm⟩ := hrel
    have HM := hide hm
    have HC2 := hide hc
    have HP := hide hp
    have HB := hide hB
    clear hc hm hp hB
    by_cases hbn : bs < n
    ·have hd : decide ((bs : Int) < (n : Int)) = true := decide_eq_true (by omega)
     obtain ⟨b2, Hb2⟩ : ∃ b2, Hid (2 * bs = b2) := ⟨_, rfl⟩
     have hb3 : b2 ≤ 2097152 ∧ 0 < b2 ∧ bs < b2 := by have := Hb2.out; omega
     have e1 : (2 : Int) * (bs : Int) = (b2 : Int) := by have := Hb2.out; omega
     have e2 : (bs : Int) * 2 = (b2 : Int) := by have := Hb2.out; omega
     have w1 : IntKind.i64.wrap (b2 : Int) = (b2 : Int) := wrap_small _ (by omega) (by omega)
     have hM0 := HM.out
     go_wp2
     go_loopw [7, 8] (fun u v wr => ∃ (c x y : Nat) (r : Nat → Nat), u = O ι x ∧ v = O ι y ∧ x = c * b2 ∧ y = x + b2 ∧ x ≤ n ∧ Prm 0 n r ∧ Bu b2 c (Bk lt f r) ∧ Bs bs x n (Bk lt f r) ∧ CF wr b off n (fun i => f (r i)) ∧ MRg b off n w wr) (fun u v _ => n + b2 - (intOf v).toNat)
     case atStart => exact ⟨0, 0, b2, r, rfl, rfl, by omega, by omega, by omega, HP.out, Bu.zero _ _, HB.out, HC2.out, hM0⟩
     case round =>
      clear HM HC2 HP HB hM0
      obtain ⟨c, x, y, r, rfl, rfl, hx, hy, hxn, hp, hU, hB, hc, hm⟩ := hrel
      have HM := hide hm
      have HC2 := hide hc
      have HP := hide hp
      have HU := hide hU
      have HB := hide hB
      have HX := hide hx
      have HY := hide hy
      have hxy : x < y := by omega
      have hxy2 : y ≤ x + b2 := by omega
      have wy : IntKind.i64.wrap ((y : Int) + (b2 : Int)) = (y : Int) + (b2 : Int) := wrap_small _ (by omega) (by omega)
      obtain ⟨m, Hm⟩ : ∃ m, Hid (x + bs = m) := ⟨_, rfl⟩
      have em : (x : Int) + (bs : Int) = (m : Int) := by have := Hm.out; omega
      have wm : IntKind.i64.wrap (m : Int) = (m : Int) := wrap_small _ (by have := Hm.out; omega) (by have := Hm.out; omega)
      have hmx : x < m := by have := Hm.out; omega
      have hmy : m < y := by have := Hm.out; have := Hb2.out; omega
      clear hc hm hp hU hB hx hy
      by_cases hyn : y ≤ n
      ·have hd2 : decide ((y : Int) ≤ (n : Int)) = true := decide_eq_true (by omega)
       have K1 : Hid (Bk lt f r x m) := by
        have q := HB.out.first (by omega)
        rw [Hm.out, Nat.min_eq_left (by omega)] at q
        exact q
       have K2 : Hid (Bk lt f r m y) := by
        have q := HB.out.rest.first (by have := Hm.out; omega)
        rw [Hm.out, Nat.min_eq_left (by have := Hm.out; have := HY.out; have := Hb2.out; omega), show m + bs = y by have := Hm.out; have := HY.out; have := Hb2.out; omega] at q
        exact q
       have HI := hide (zq5 (cap := cap) eg HW.out hn (y - x) wr x m y (fun i => tag f (r i)) (Nat.le_refl _) (K1.out.mg K2.out (by omega) (by omega) (fun i q1 q2 => HSr.out r HP.out i (by omega))) hmx hmy hyn HC2.out (HF.out _ HM.out) (HK.out.later HM.out))
       go_wp2_with fail
       refine HI.out.mono ?_
       intro r9 W1 hans
       obtain ⟨rfl, s, hmg, hc, hm⟩ := hans
       have HC3 := hide hc
       have HM3 := hide (HM.out.tr hm)
       have HG := hide hmg
       clear hc hm hmg HI
       go_wp2
       have HREL : Hid (∃ (c x' y' : Nat) (r : Nat → Nat), Value.int .i64 (y : Int) = O ι x' ∧ Value.int .i64 ((y : Int) + (b2 : Int)) = O ι y' ∧ x' = c * b2 ∧ y' = x' + b2 ∧ x' ≤ n ∧ Prm 0 n r ∧ Bu b2 c (Bk lt f r) ∧ Bs bs x' n (Bk lt f r) ∧ CF W1 b off n (fun i => f (r i)) ∧ MRg b off n w W1) := by
        have hx := HX.out
        have hy := HY.out
        refine ⟨c + 1, y, y + b2, fun i => r (s i), rfl, by go_num, by rw [Nat.succ_mul]; omega, rfl, hyn, HP.out.comp (HG.out.1.wide (by omega) hyn), ?_, ?_, HC3.out, HM3.out⟩
        ·have q := K1.out.join K2.out (by omega) (by omega) HG.out
         rw [hy, hx] at q
         exact HU.out.up (fun k hk z => z.far HG.out.1 (Or.inl (by have := zu2 (bs := b2) hk; omega))) q
        ·have q := HB.out.rest.rest
         rw [show x + bs + bs = y by have := Hb2.out; omega] at q
         exact q.mono fun u v q1 q2 z => z.far HG.out.1 (Or.inr q1)
       first
        | (go_roundw
           ·exact HREL.out
           ·simp [intOf]; omega)
        | (refine ⟨HREL.out, ?_⟩
           simp [intOf]; omega)
      ·have hd2 : decide ((y : Int) ≤ (n : Int)) = false := decide_eq_false (by omega)
       by_cases hmn : m < n
       ·have hd3 : decide ((m : Int) < (n : Int)) = true := decide_eq_true (by omega)
        have K1 : Hid (Bk lt f r x m) := by
         have q := HB.out.first (by omega)
         rw [Hm.out, Nat.min_eq_left (by omega)] at q
         exact q
        have K2 : Hid (Bk lt f r m n) := by
         have q := HB.out.rest.first (by have := Hm.out; omega)
         rw [Hm.out, Nat.min_eq_right (by have := Hm.out; have := HY.out; have := Hb2.out; omega)] at q
         exact q
        have HI := hide (zq5 (cap := cap) eg HW.out hn (n - x) wr x m n (fun i => tag f (r i)) (Nat.le_refl _) (K1.out.mg K2.out (by omega) (by omega) (fun i q1 q2 => HSr.out r HP.out i (by omega))) hmx hmn (Nat.le_refl _) HC2.out (HF.out _ HM.out) (HK.out.later HM.out))
        go_wp2_with fail
        refine HI.out.mono ?_
        intro r9 W1 hans
        obtain ⟨rfl, s, hmg, hc, hm⟩ := hans
        have HC3 := hide hc
        have HM3 := hide (HM.out.tr hm)
        have HG := hide hmg
        clear hc hm hmg HI
        go_wp2
        have HREL : Hid (∃ (bs : Nat) (r : Nat → Nat), Value.int .i64 (b2 : Int) = O ι bs ∧ 0 < bs ∧ bs ≤ 4194304 ∧ Prm 0 n r ∧ Bs bs 0 n (Bk lt f r) ∧ CF W1 b off n (fun i => f (r i)) ∧ MRg b off n w W1) := by
         have hx := HX.out
         have hy := HY.out
         refine ⟨b2, fun i => r (s i), rfl, by omega, by omega, HP.out.comp (HG.out.1.wide (by omega) (Nat.le_refl _)), ?_, HC3.out, HM3.out⟩
         refine Bu.all (c := c) (fun k hk => (HU.out k hk).far HG.out.1 (Or.inl (by have := zu2 (bs := b2) hk; omega))) (by omega) (by omega) (fun q => ?_)
         rw [← hx]
         exact K1.out.join K2.out (by omega) (by omega) HG.out
        first
         | (go_roundw
            ·exact HREL.out
            ·simp [intOf]; omega)
         | (refine ⟨HREL.out, ?_⟩
            simp [intOf]; omega)
       ·have hd3 : decide ((m : Int) < (n : Int)) = false := decide_eq_false (by omega)
        go_wp2
        have HREL : Hid (∃ (bs : Nat) (r : Nat → Nat), Value.int .i64 (b2 : Int) = O ι bs ∧ 0 < bs ∧ bs ≤ 4194304 ∧ Prm 0 n r ∧ Bs bs 0 n (Bk lt f r) ∧ CF wr b off n (fun i => f (r i)) ∧ MRg b off n w wr) := by
         have hx := HX.out
         have hy := HY.out
         refine ⟨b2, r, rfl, by omega, by omega, HP.out, ?_, HC2.out, HM.out⟩
         refine Bu.all (c := c) HU.out (by omega) (by omega) (fun q => ?_)
         have z := HB.out.first (by omega)
         rw [Nat.min_eq_right (by have := Hm.out; omega)] at z
         rw [← hx]
         exact z
        first
         | (go_roundw
            ·exact HREL.out
            ·simp [intOf]; omega)
         | (refine ⟨HREL.out, ?_⟩
            simp [intOf]; omega)
    ·have hd : decide ((bs : Int) < (n : Int)) = false := decide_eq_false (by omega)
     have HRES : Hid (StOk lt b off n f w (.returned (.tuple #[])) wr) := ⟨rfl, r, HP.out, HB.out.srt (by omega), HC2.out, HM.out⟩
     go_wp2
     exact bodyPost_end (results_none rfl _ _ _) rfl HRES.out
theorem zw7 {w : World} {b off n cap gf : Nat} {cb : Array Value} {Sx : C3 → Prop} {lt : C3 → C3 → Bool} {f : Nat → C3} (eg : ∀ args w, (callFunc gf args).run Tryz.prog w = .ok (.enter gf args) w) (hw : Wk Sx lt) (h : CF w b off n f) (hf : ∀ o, w.frozen? ⟨b, o, none⟩ = false) (hk : CmpK gf cb b off n w Sx lt) (hs : ∀ i, i < n → Sx (f i)) (hn : n ≤ 1048576) :
  Calls Tryz.prog 60 #[σ (some ⟨b, off, none⟩) n cap, .func (.func gf) #[] cb] w fun r w' => StOk lt b off n f w r w' := by
 have HI := hide (zf16 (cap := cap) eg hw h hf hk hs hn)
 clear h hf hk hs hw
 go_enter Tryz.func60, Tryz.ntmps60
 go_wp2_with fail
 refine HI.out.mono ?_
 intro r9 W1 hans
 obtain ⟨rfl, hres⟩ := hans
 have HRES : Hid (StOk lt b off n f w (.returned (.tuple #[])) W1) := ⟨rfl, hres⟩
 clear hres HI
 go_wp2
 exact bodyPost_end (results_none rfl _ _ _) rfl HRES.out
def fkey (a : Nat) : Int := if nanD a = true then 100000000000000000000 else 2 * keyD a + (if mzB a = true then 0 else 1)
theorem zd22 (x y : Int) (p q : Bool) : (decide (x < y) || (decide (x = y) && (p && !q))) = decide (2 * x + (if p = true then 0 else 1) < 2 * y + (if q = true then 0 else 1)) := by
 have key : ∀ (P Q : Prop) [Decidable P] [Decidable Q], (P ↔ Q) → decide P = decide Q := fun P Q _ _ h => by simp [h]
 rcases Int.lt_trichotomy x y with h | h | h
 ·have h2 : ¬ x = y := by omega
  rw [decide_eq_true h, Bool.true_or]
  symm
  apply decide_eq_true
  cases p <;> cases q <;> simp <;> omega
 ·subst h
  have h1 : ¬ x < x := by omega
  rw [decide_eq_false h1, Bool.false_or, decide_eq_true rfl, Bool.true_and]
  cases p <;> cases q <;> simp <;> omega
 ·have h1 : ¬ x < y := by omega
  have h2 : ¬ x = y := by omega
  rw [decide_eq_false h1, Bool.false_or, decide_eq_false h2, Bool.false_and]
  symm
  apply decide_eq_false
  cases p <;> cases q <;> simp <;> omega
theorem zg6 (a b : Nat) (ha : B64 a) (hb : B64 b) : fbef a b = decide (fkey a < fkey b) := by
 unfold B64 at ha hb
 have e1 := zd4 a ha
 have e2 := zd4 b hb
 have b1 : -9223372036854775808 ≤ keyD a ∧ keyD a ≤ 9223372036854775808 := by split at e1 <;> omega
 have b2 : -9223372036854775808 ≤ keyD b ∧ keyD b ≤ 9223372036854775808 := by split at e2 <;> omega
 clear e1 e2
 have c1 : (0 : Int) ≤ (if mzB a = true then 0 else 1) ∧ (if mzB a = true then 0 else 1) ≤ (1 : Int) := by split <;> omega
 have c2 : (0 : Int) ≤ (if mzB b = true then 0 else 1) ∧ (if mzB b = true then 0 else 1) ≤ (1 : Int) := by split <;> omega
 unfold fbef fkey
 cases na : nanD a with
 | true =>
  rw [Bool.not_true, Bool.false_and, if_pos rfl]
  symm
  apply decide_eq_false
  split <;> omega
 | false =>
  rw [Bool.not_false, Bool.true_and, if_neg (c := false = true) (by simp)]
  cases nb : nanD b with
  | true =>
   rw [Bool.true_or, if_pos rfl]
   symm
   apply decide_eq_true
   omega
  | false =>
   rw [Bool.false_or, if_neg (c := false = true) (by simp), ← zd22]
   unfold flt feq
   rw [na, nb]
   simp
def OkC (dt : Int) (x : C3) : Prop := I64 x.1 ∧ B64 x.2.1 ∧ B64 x.2.2 ∧ validB dt x.1 x.2.1 x.2.2 = true
def befC (dt : Int) (x y : C3) : Bool := befB dt x.1 x.2.1 x.2.2 y.1 y.2.1 y.2.2
def key1 (dt : Int) (x : C3) : Int := if dt ≤ 6 then x.1 else fkey x.2.1
def key2 (dt : Int) (x : C3) : Int := if dt ≤ 8 then 0 else fkey x.2.2
theorem zw2 {dt : Int} {x y : C3} (hx : OkC dt x) (hy : OkC dt y) : befC dt x y = decide (key1 dt x < key1 dt y ∨ (key1 dt x = key1 dt y ∧ key2 dt x < key2 dt y)) := by
 obtain ⟨x1, x2, x3, x4⟩ := hx
 obtain ⟨y1, y2, y3, y4⟩ := hy
 unfold befC befB key1 key2
 rw [x4, y4]
 simp only [Bool.true_and]
 by_cases h6 : dt ≤ 6
 ·rw [if_pos h6, if_pos h6, if_pos h6, if_pos (by omega), if_pos (by omega)]
  simp
 ·rw [if_neg h6, if_neg h6, if_neg h6]
  by_cases h8 : dt ≤ 8
  ·rw [if_pos h8, if_pos h8, if_pos h8, zg6 _ _ x2 y2]
   simp
  ·rw [if_neg h8, if_neg h8, if_neg h8]
   unfold cbef
   rw [zg6 _ _ x2 y2, zg6 _ _ y2 x2, zg6 _ _ x3 y3]
   generalize fkey x.2.1 = p
   generalize fkey y.2.1 = q
   generalize fkey x.2.2 = r
   generalize fkey y.2.2 = s
   rw [Bool.eq_iff_iff]
   simp only [Bool.or_eq_true, Bool.and_eq_true, Bool.not_eq_true', decide_eq_true_eq, decide_eq_false_iff_not]
   omega
theorem ze9 (dt : Int) : Wk (OkC dt) (befC dt) := by
 refine ⟨fun x y hx hy h => ?_, fun x y z hx hy hz h k => ?_⟩
 ·rw [zw2 hx hy] at h
  rw [zw2 hy hx]
  simp only [decide_eq_true_eq, decide_eq_false_iff_not] at h ⊢
  omega
 ·rw [zw2 hx hy] at h
  rw [zw2 hy hz] at k
  rw [zw2 hx hz]
  simp only [decide_eq_false_iff_not] at h k ⊢
  omega
theorem zs16 {W : World} {B : Nat} {dt : Int} {x y : C3} (hB : W.cell? ⟨B, 0, none⟩ = some (O ι dt)) (hx : OkC dt x) (hy : OkC dt y) :
  Calls Tryz.prog 97 #[cellV x, cellV y, π (some ⟨B, 0, none⟩)] W fun e W' => (∃ c : Int, e = .returned (O ι c) ∧ decide (c < 0) = befC dt x y) ∧ Ext W W' := by
 obtain ⟨x0, x1, x2⟩ := x
 obtain ⟨y0, y1, y2⟩ := y
 unfold cellV
 have x0' : Ext W ((W.alloc (χ #[O ι x0, .float .f64 x1, .float .f64 x2] 66)).alloc (χ #[O ι y0, .float .f64 y1, .float .f64 y2] 66)) := ((Ext.refl W).alloc _ _).alloc _ _
 have xB := x0'.box hB
 have HE := hide x0'
 have n1 := fun j => zd W #[O ι x0, .float .f64 x1, .float .f64 x2] 66 W.heap.size rfl j
 have n2 := fun j => zd (W.alloc (χ #[O ι x0, .float .f64 x1, .float .f64 x2] 66)) #[O ι y0, .float .f64 y1, .float .f64 y2] 66 (W.heap.size + 1) (by simp) j
 have e1 : Ext (W.alloc (χ #[O ι x0, .float .f64 x1, .float .f64 x2] 66)) ((W.alloc (χ #[O ι x0, .float .f64 x1, .float .f64 x2] 66)).alloc (χ #[O ι y0, .float .f64 y1, .float .f64 y2] 66)) := (Ext.refl _).alloc _ _
 have p0 := e1.box (n1 0)
 have p1 := e1.box (n1 1)
 have p2 := e1.box (n1 2)
 have q0 := n2 0
 have q1 := n2 1
 have q2 := n2 2
 simp only [List.getElem?_toArray, List.getElem?_cons_zero, List.getElem?_cons_succ] at q0 q1 q2
 obtain ⟨hx1, hx2, hx3, hx4⟩ := hx
 obtain ⟨hy1, hy2, hy3, hy4⟩ := hy
 have HK := hide (zw2 (dt := dt) (x := (x0, x1, x2)) (y := (y0, y1, y2)) ⟨hx1, hx2, hx3, hx4⟩ ⟨hy1, hy2, hy3, hy4⟩)
 have HA := hide ((ze9 dt).asym (x0, x1, x2) (y0, y1, y2) ⟨hx1, hx2, hx3, hx4⟩ ⟨hy1, hy2, hy3, hy4⟩)
 have HB1 := hide (zl7 dt x0 x1 x2 y0 y1 y2 hx1 hx2 hx3 hy1 hy2 hy3 ((W.alloc (χ #[O ι x0, .float .f64 x1, .float .f64 x2] 66)).alloc (χ #[O ι y0, .float .f64 y1, .float .f64 y2] 66)))
 have HBC : Hid (befB dt x0 x1 x2 y0 y1 y2 = befC dt (x0, x1, x2) (y0, y1, y2)) := rfl
 clear n1 n2 e1 x0'
 go_enter Tryz.func97, Tryz.ntmps97
 go_wp2_with fail
 refine HB1.out.mono ?_
 rintro e w1 ⟨rfl, xx⟩
 rw [HBC.out]
 have X1 := hide (HE.out.trans xx)
 have p0 := xx.box p0
 have p1 := xx.box p1
 have p2 := xx.box p2
 have q0 := xx.box q0
 have q1 := xx.box q1
 have q2 := xx.box q2
 have xB := xx.box xB
 cases hb : befC dt (x0, x1, x2) (y0, y1, y2) with
 | true =>
  go_wp2
  go_ret
  exact ⟨⟨-1, rfl, hb.symm⟩, X1.out⟩
 | false =>
  go_wp2_with fail
  refine (zl7 dt y0 y1 y2 x0 x1 x2 hy1 hy2 hy3 hx1 hx2 hx3 w1).mono ?_
  rintro e w2 ⟨rfl, xx2⟩
  have X2 := hide (X1.out.trans xx2)
  cases hb2 : befB dt y0 y1 y2 x0 x1 x2 with
  | true =>
   go_wp2
   go_ret
   exact ⟨⟨1, rfl, hb.symm⟩, X2.out⟩
  | false =>
   go_wp2
   go_ret
   exact ⟨⟨0, rfl, hb.symm⟩, X2.out⟩
theorem zt24 (args : Array Value) (w : World) : (callFunc 97 args).run Tryz.prog w = .ok (.enter 97 args) w := by
 have hn : ¬ Tryz.f97.name = "runtime.NumGoroutine" := by decide
 have hb : ¬ Tryz.f97.body = none := by intro h; cases h
 unfold callFunc
 simp [Tryz.func97, go_sem, hn, hb]
end
section
open Go.ChangeShapes Go.RowKit FL
def cnt (p : Nat → Bool) : Nat → Nat
 | 0 => 0
 | m + 1 => cnt p m + (if p m = true then 1 else 0)
theorem zh20 (p : Nat → Bool) : ∀ m, cnt p m ≤ m
 | 0 => Nat.le_refl _
 | m + 1 => by have := zh20 p m; unfold cnt; split <;> omega
theorem zz22 {p : Nat → Bool} {i : Nat} (h : p i = false) : ∀ m, i < m → cnt p m < m
 | 0, q => absurd q (by omega)
 | m + 1, q => by
  unfold cnt
  by_cases z : i = m
  ·subst z
   have := zh20 p i
   rw [h]; simp; omega
  ·have := zz22 h m (by omega)
   split <;> omega
def blt (f : Nat → C3) (dt : Int) (j i : Nat) : Bool := befC dt (f j) (f i) || (decide (j < i) && !befC dt (f i) (f j))
def rkN (f : Nat → C3) (dt : Int) (n i : Nat) : Nat := cnt (fun j => blt f dt j i) n
def ordL (f : Nat → C3) (dt : Int) (n : Nat) : Nat → List Int
 | 0 => List.replicate n 0
 | i + 1 => (ordL f dt n i).set (rkN f dt n i) i
theorem zb6 (f : Nat → C3) (dt : Int) (n : Nat) : ∀ i, (ordL f dt n i).length = n
 | 0 => by simp [ordL]
 | i + 1 => by rw [ordL, List.length_set, zb6 f dt n i]
theorem zm22 {f : Nat → C3} {dt : Int} {i : Nat} (h : OkC dt (f i)) : blt f dt i i = false := by
 unfold blt
 have : befC dt (f i) (f i) = false := by
  cases e : befC dt (f i) (f i) with
  | false => rfl
  | true => rw [(ze9 dt).asym _ _ h h e] at e; cases e
 rw [this]; simp
theorem zg11 (W : World) (n : Nat) (hn : n ≤ 4096) : (Instr.makeSlice 25 (O ι n) (O ι n)).run Tryz.prog W = .ok (σ (some ⟨W.heap.size, 0, none⟩) n n) (W.alloc (χ (madeCells #[O ι 0] n) 2)) := by
 obtain ⟨i0, hi0, hz0, hz1, hz2⟩ := info_parts za22
 have h := run_make (P := Tryz.prog) W 25 2 i0 (O ι 0) Tryz.underlying25 hi0 hz0 .i64 .i64 n n (by omega) (by omega) (by rw [hz2]; omega) (by omega)
 rw [hz1] at h
 simp only [Int.toNat_natCast, Nat.mul_one] at h
 exact h
theorem zf15 (W : World) (n : Nat) : Row (W.alloc (χ (madeCells #[O ι 0] n) 2)) W.heap.size 0 (List.replicate n 0) := fun j hj => by
 have := zd W (madeCells #[O ι 0] n) 2 W.heap.size rfl j
 rw [Nat.zero_add, this]
 simp at hj
 simp [madeCells, hj, List.getD_eq_getElem?_getD, Nat.mod_one]
theorem zp13 {w : World} {b off n cap : Nat} {dt : Int} {f : Nat → C3} (h : CF w b off n f) (hbw : b < w.heap.size) (hs : ∀ i, i < n → OkC dt (f i)) (hn : n ≤ 4096) :
  Calls Tryz.prog 55 #[O ι dt, σ (some ⟨b, off, none⟩) n cap] w fun e w' => ∃ B, e = .returned (σ (some ⟨B, 0, none⟩) n n) ∧ w.heap.size ≤ B ∧ Row w' B 0 (ordL f dt n n) ∧ Ext w w' := by
 have hmk := zg11 w n hn
 have XA : Ext w (w.alloc (χ (madeCells #[O ι 0] n) 2)) := (Ext.refl w).alloc _ _
 have HX := hide XA
 have HR0 : Hid (Row (w.alloc (χ (madeCells #[O ι 0] n) 2)) w.heap.size 0 (ordL f dt n 0)) := zf15 w n
 have HC := hide (h.ext XA)
 have HFZ : Hid (∀ W', Mut w.heap.size (w.alloc (χ (madeCells #[O ι 0] n) 2)) W' → ∀ o, W'.frozen? ⟨w.heap.size, o, none⟩ = false) := fun W' x o => (x.fz _).trans (XA.unfrozen (Nat.le_refl _) o)
 have hWs : w.heap.size < (w.alloc (χ (madeCells #[O ι 0] n) 2)).heap.size := by simp
 have HS := hide hs
 clear h hs XA
 go_enter Tryz.func55, Tryz.ntmps55
 go_wp2
 generalize w.alloc (χ (madeCells #[O ι 0] n) 2) = WA at HX HR0 HC HFZ hWs hmk ⊢
 have HCW : Hid (∀ W', Mut w.heap.size WA W' → CF W' b off n f) := fun W' x j hj => by
  have hb' : W'.heap[b]? = WA.heap[b]? := x.block b (by omega) (by omega)
  have q := HC.out j hj
  exact ⟨(World.cell?_of_block (w := WA) (a := ⟨b, _, none⟩) hb').trans q.1, (World.cell?_of_block (w := WA) (a := ⟨b, _, none⟩) hb').trans q.2.1, (World.cell?_of_block (w := WA) (a := ⟨b, _, none⟩) hb').trans q.2.2⟩
 clear hmk HC
 go_loopw [6, 7, 8] (fun x6 x7 x8 wr => ∃ q : Nat, x6 = O ι q ∧ q ≤ n ∧ Row wr w.heap.size 0 (ordL f dt n q) ∧ Mut w.heap.size WA wr) (fun x6 _ _ _ => n - (intOf x6).toNat)
 case atStart => exact ⟨0, rfl, by omega, HR0.out, Mut.refl _ _⟩
 case round =>
  obtain ⟨q, rfl, hq, hr, hm⟩ := hrel
  have HM := hide hm
  have HR := hide hr
  clear hr hm HR0
  by_cases hlt : q < n
  ·have hd : decide ((q : Int) < (n : Int)) = true := decide_eq_true (by omega)
   have hM0 := HM.out
   go_wp2
   go_loopw [7, 8] (fun x7 x8 wr => ∃ p : Nat, x7 = O ι (cnt (fun j => blt f dt j q) p : Nat) ∧ x8 = O ι p ∧ p ≤ n ∧ Row wr w.heap.size 0 (ordL f dt n q) ∧ Mut w.heap.size WA wr) (fun _ x8 _ => n - (intOf x8).toNat)
   case atStart => exact ⟨0, rfl, rfl, by omega, HR.out, hM0⟩
   case round =>
    clear HM HR hM0
    obtain ⟨p, rfl, rfl, hp, hr, hm⟩ := hrel
    have HM := hide hm
    have HR := hide hr
    clear hr hm
    obtain ⟨ct, Hct⟩ : ∃ ct, Hid (cnt (fun j => blt f dt j q) p = ct) := ⟨_, rfl⟩
    have hct : ct ≤ p := by rw [← Hct.out]; exact zh20 _ _
    rw [Hct.out]
    have wct : IntKind.i64.wrap ((ct : Int) + 1) = (ct : Int) + 1 := wrap_small _ (by omega) (by omega)
    have wcp : IntKind.i64.wrap ((p : Int) + 1) = (p : Int) + 1 := wrap_small _ (by omega) (by omega)
    by_cases hpn : p < n
    ·have hd1 : decide ((p : Int) < (n : Int)) = true := decide_eq_true (by omega)
     have bp0 : (0 : Int) ≤ (p : Int) := Int.natCast_nonneg _
     have bq0 : (0 : Int) ≤ (q : Int) := Int.natCast_nonneg _
     have bp1 : (p : Int) < (n : Int) := by omega
     have bq1 : (q : Int) < (n : Int) := by omega
     obtain ⟨u0, u1, u2, Hu⟩ : ∃ u0 u1 u2, Hid (f p = (u0, u1, u2)) := ⟨_, _, _, rfl⟩
     obtain ⟨v0, v1, v2, Hv⟩ : ∃ u0 u1 u2, Hid (f q = (u0, u1, u2)) := ⟨_, _, _, rfl⟩
     obtain ⟨c10, c11, c12⟩ := HCW.out wr HM.out p hpn
     obtain ⟨c20, c21, c22⟩ := HCW.out wr HM.out q hlt
     rw [Hu.out] at c10 c11 c12
     rw [Hv.out] at c20 c21 c22
     obtain ⟨k1, k2, k3, _⟩ := HS.out p hpn
     obtain ⟨l1, l2, l3, _⟩ := HS.out q hlt
     rw [Hu.out] at k1 k2 k3
     rw [Hv.out] at l1 l2 l3
     have HB1 := hide (fun W => zn6 dt u0 u1 u2 v0 v1 v2 k1 k2 k3 l1 l2 l3 W)
     have HB2 := hide (fun W => zn6 dt v0 v1 v2 u0 u1 u2 l1 l2 l3 k1 k2 k3 W)
     have Hbl : Hid (blt f dt p q = (befB dt u0 u1 u2 v0 v1 v2 || (decide (p < q) && !befB dt v0 v1 v2 u0 u1 u2))) := by show blt f dt p q = _; unfold blt befC; rw [Hu.out, Hv.out]
     clear k1 k2 k3 l1 l2 l3
     have HEND : Hid (∀ W1, Ext wr W1 → Row W1 w.heap.size 0 (ordL f dt n q) ∧ Mut w.heap.size WA W1) := fun W1 x => ⟨fun j hj => x.box (HR.out j hj), HM.out.trans (x.mut _)⟩
     have HCT : Hid (cnt (fun j => blt f dt j q) (p + 1) = ct + (if blt f dt p q = true then 1 else 0)) := by show cnt _ (p + 1) = _; rw [cnt, Hct.out]
     go_wp2_with fail
     cases ht1 : befB dt u0 u1 u2 v0 v1 v2 with
     | true =>
      have Hblt : Hid (blt f dt p q = true) := by show _ = _; rw [Hbl.out, ht1]; rfl
      have SA : Hid ((fun w' : World => w'.cell? ⟨b, off + p * 3, none⟩ = some (O ι u0) ∧ w'.cell? ⟨b, off + p * 3 + 1, none⟩ = some (.float .f64 u1) ∧ w'.cell? ⟨b, off + p * 3 + 2, none⟩ = some (.float .f64 u2) ∧ w'.cell? ⟨b, off + q * 3, none⟩ = some (O ι v0) ∧ w'.cell? ⟨b, off + q * 3 + 1, none⟩ = some (.float .f64 v1) ∧ w'.cell? ⟨b, off + q * 3 + 2, none⟩ = some (.float .f64 v2)) wr.drew) := ⟨c10, c11, c12, c20, c21, c22⟩
      refine zq (fun ac a' w' => ∃ (y24 y25 y26 y27 y28 y29 y30 y31 y32 y33 y34 y35 y36 y37 y38 y39 y40 y41 y42 y43 y44 y45 y46 y47 y48 y49 y50 : Value), a' = ((((((((((((((((((((((((((((ac.put (some 24) (y24)).put (some 25) (y25)).put (some 26) (y26)).put (some 27) (y27)).put (some 28) (y28)).put (some 29) (y29)).put (some 30) (y30)).put (some 31) (y31)).put (some 32) (y32)).put (some 33) (y33)).put (some 34) (y34)).put (some 35) (y35)).put (some 36) (y36)).put (some 37) (y37)).put (some 38) (y38)).put (some 39) (y39)).put (some 40) (y40)).put (some 41) (y41)).put (some 42) (y42)).put (some 43) (y43)).put (some 44) (y44)).put (some 45) (y45)).put (some 46) (y46)).put (some 47) (y47)).put (some 48) (y48)).put (some 49) (y49)).put (some 50) (y50)).put (some 51) (.bool (blt f dt p q))) ∧ Ext wr w') (S := (fun w' : World => w'.cell? ⟨b, off + p * 3, none⟩ = some (O ι u0) ∧ w'.cell? ⟨b, off + p * 3 + 1, none⟩ = some (.float .f64 u1) ∧ w'.cell? ⟨b, off + p * 3 + 2, none⟩ = some (.float .f64 u2) ∧ w'.cell? ⟨b, off + q * 3, none⟩ = some (O ι v0) ∧ w'.cell? ⟨b, off + q * 3 + 1, none⟩ = some (.float .f64 v1) ∧ w'.cell? ⟨b, off + q * 3 + 2, none⟩ = some (.float .f64 v2))) (late := []) (by kernel_rfl) ?_ ?_
      rotate_left
      ·have XW : Hid (Ext wr wr.drew) := (Ext.refl wr).drew
       refine zl27 0 24 (O ι dt) rfl (.inl ⟨by kernel_rfl, ?_⟩) SA.out ?_
       ·rintro w' ⟨z0, z1, z2, z3, z4, z5⟩
        go_simp
       simp only [aP, sT, sZ, sS]
       refine zl27 1 25 (σ (some ⟨b, off, none⟩) n cap) rfl (.inl ⟨by kernel_rfl, ?_⟩) SA.out ?_
       ·rintro w' ⟨z0, z1, z2, z3, z4, z5⟩
        go_simp
       simp only [aP, sT, sZ, sS]
       refine zl27 2 26 (O ι p) rfl (.inl ⟨by kernel_rfl, ?_⟩) SA.out ?_
       ·rintro w' ⟨z0, z1, z2, z3, z4, z5⟩
        go_simp
       simp only [aP, sT, sZ, sS]
       refine zl27 3 27 (π (some ⟨b, off + p * 3, none⟩)) rfl (.inl ⟨by kernel_rfl, ?_⟩) SA.out ?_
       ·rintro w' ⟨z0, z1, z2, z3, z4, z5⟩
        go_simp
       simp only [aP, sT, sZ, sS]
       refine zl27 4 28 (γ #[O ι u0, .float .f64 u1, .float .f64 u2]) rfl (.inl ⟨by kernel_rfl, ?_⟩) SA.out ?_
       ·rintro w' ⟨z0, z1, z2, z3, z4, z5⟩
        go_simp
       simp only [aP, sT, sZ, sS]
       refine zl27 5 29 (σ (some ⟨b, off, none⟩) n cap) rfl (.inl ⟨by kernel_rfl, ?_⟩) SA.out ?_
       ·rintro w' ⟨z0, z1, z2, z3, z4, z5⟩
        go_simp
       simp only [aP, sT, sZ, sS]
       refine zl27 6 30 (O ι q) rfl (.inl ⟨by kernel_rfl, ?_⟩) SA.out ?_
       ·rintro w' ⟨z0, z1, z2, z3, z4, z5⟩
        go_simp
       simp only [aP, sT, sZ, sS]
       refine zl27 7 31 (π (some ⟨b, off + q * 3, none⟩)) rfl (.inl ⟨by kernel_rfl, ?_⟩) SA.out ?_
       ·rintro w' ⟨z0, z1, z2, z3, z4, z5⟩
        go_simp
       simp only [aP, sT, sZ, sS]
       refine zl27 8 32 (γ #[O ι v0, .float .f64 v1, .float .f64 v2]) rfl (.inl ⟨by kernel_rfl, ?_⟩) SA.out ?_
       ·rintro w' ⟨z0, z1, z2, z3, z4, z5⟩
        go_simp
       simp only [aP, sT, sZ, sS]
       refine ze (i := 9) (by kernel_rfl) rfl (fun K hK => ?_)
       go_simp
       refine (HB1.out wr.drew).mono ?_
       rintro e2 t1 ⟨rfl, xx⟩
       replace XW := hide (XW.out.trans xx)
       have S1 : Hid ((fun w' : World => w'.cell? ⟨b, off + p * 3, none⟩ = some (O ι u0) ∧ w'.cell? ⟨b, off + p * 3 + 1, none⟩ = some (.float .f64 u1) ∧ w'.cell? ⟨b, off + p * 3 + 2, none⟩ = some (.float .f64 u2) ∧ w'.cell? ⟨b, off + q * 3, none⟩ = some (O ι v0) ∧ w'.cell? ⟨b, off + q * 3 + 1, none⟩ = some (.float .f64 v1) ∧ w'.cell? ⟨b, off + q * 3 + 2, none⟩ = some (.float .f64 v2)) t1) := ⟨XW.out.box c10, XW.out.box c11, XW.out.box c12, XW.out.box c20, XW.out.box c21, XW.out.box c22⟩
       clear xx
       refine hK.out _ _ (fun _ => S1.out) ?_
       clear hK K
       try simp only [aP, sT, sZ, sS]
       rw [ht1]
       refine zl27 10 34 (.bool true) rfl (.inl ⟨by kernel_rfl, ?_⟩) S1.out ?_
       ·rintro w' ⟨z0, z1, z2, z3, z4, z5⟩
        go_simp
       simp only [aP, sT, sZ, sS]
       refine zh (i := 11) (d := 35) (v := undef) rfl (by rfl) (by kernel_rfl) (by kernel_rfl) (fun _ _ _ h => by cases h.1) _ (by kernel_rfl) (by kernel_rfl) (Or.inr ⟨by kernel_rfl, rfl⟩) S1.out ?_
       simp only [aP, sT, sZ, sS]
       refine zh (i := 12) (d := 36) (v := undef) rfl (by rfl) (by kernel_rfl) (by kernel_rfl) (fun _ _ _ h => by cases h.1) _ (by kernel_rfl) (by kernel_rfl) (Or.inr ⟨by kernel_rfl, rfl⟩) S1.out ?_
       simp only [aP, sT, sZ, sS]
       refine zh (i := 13) (d := 37) (v := undef) rfl (by rfl) (by kernel_rfl) (by kernel_rfl) (fun _ _ _ h => by cases h.1) _ (by kernel_rfl) (by kernel_rfl) (Or.inr ⟨by kernel_rfl, rfl⟩) S1.out ?_
       simp only [aP, sT, sZ, sS]
       refine zh (i := 14) (d := 38) (v := undef) rfl (by rfl) (by kernel_rfl) (by kernel_rfl) (fun _ _ _ h => by cases h.1) _ (by kernel_rfl) (by kernel_rfl) (Or.inr ⟨by kernel_rfl, rfl⟩) S1.out ?_
       simp only [aP, sT, sZ, sS]
       refine zh (i := 15) (d := 39) (v := undef) rfl (by rfl) (by kernel_rfl) (by kernel_rfl) (fun _ _ _ h => by cases h.1) _ (by kernel_rfl) (by kernel_rfl) (Or.inr ⟨by kernel_rfl, rfl⟩) S1.out ?_
       simp only [aP, sT, sZ, sS]
       refine zh (i := 16) (d := 40) (v := undef) rfl (by rfl) (by kernel_rfl) (by kernel_rfl) (fun _ _ _ h => by cases h.1) _ (by kernel_rfl) (by kernel_rfl) (Or.inr ⟨by kernel_rfl, rfl⟩) S1.out ?_
       simp only [aP, sT, sZ, sS]
       refine zh (i := 17) (d := 41) (v := undef) rfl (by rfl) (by kernel_rfl) (by kernel_rfl) (fun _ _ _ h => by cases h.1) _ (by kernel_rfl) (by kernel_rfl) (Or.inr ⟨by kernel_rfl, rfl⟩) S1.out ?_
       simp only [aP, sT, sZ, sS]
       refine zh (i := 18) (d := 42) (v := undef) rfl (by rfl) (by kernel_rfl) (by kernel_rfl) (fun _ _ _ h => by cases h.1) _ (by kernel_rfl) (by kernel_rfl) (Or.inr ⟨by kernel_rfl, rfl⟩) S1.out ?_
       simp only [aP, sT, sZ, sS]
       refine zh (i := 19) (d := 43) (v := undef) rfl (by rfl) (by kernel_rfl) (by kernel_rfl) (fun _ _ _ h => by cases h.1) _ (by kernel_rfl) (by kernel_rfl) (Or.inr ⟨by kernel_rfl, rfl⟩) S1.out ?_
       simp only [aP, sT, sZ, sS]
       refine zh (i := 20) (d := 44) (v := undef) rfl (by rfl) (by kernel_rfl) (by kernel_rfl) (fun _ _ _ h => by cases h.1) _ (by kernel_rfl) (by kernel_rfl) (Or.inr ⟨by kernel_rfl, rfl⟩) S1.out ?_
       simp only [aP, sT, sZ, sS]
       refine zh (i := 21) (d := 45) (v := undef) rfl (by rfl) (by kernel_rfl) (by kernel_rfl) (fun _ _ _ h => by cases h.1) _ (by kernel_rfl) (by kernel_rfl) (Or.inr ⟨by kernel_rfl, rfl⟩) S1.out ?_
       simp only [aP, sT, sZ, sS]
       refine zh (i := 22) (d := 46) (v := undef) rfl (by rfl) (by kernel_rfl) (by kernel_rfl) (fun _ _ _ h => by cases h.1) _ (by kernel_rfl) (by kernel_rfl) (Or.inr ⟨by kernel_rfl, rfl⟩) S1.out ?_
       simp only [aP, sT, sZ, sS]
       refine zh (i := 23) (d := 47) (v := undef) rfl (by rfl) (by kernel_rfl) (by kernel_rfl) (fun _ _ _ h => by cases h.1) _ (by kernel_rfl) (by kernel_rfl) (Or.inr ⟨by kernel_rfl, rfl⟩) S1.out ?_
       simp only [aP, sT, sZ, sS]
       refine zh (i := 24) (d := 48) (v := undef) rfl (by rfl) (by kernel_rfl) (by kernel_rfl) (fun _ _ _ h => by cases h.1) _ (by kernel_rfl) (by kernel_rfl) (Or.inr ⟨by kernel_rfl, rfl⟩) S1.out ?_
       simp only [aP, sT, sZ, sS]
       refine zh (i := 25) (d := 49) (v := undef) rfl (by rfl) (by kernel_rfl) (by kernel_rfl) (fun _ _ _ h => by cases h.1) _ (by kernel_rfl) (by kernel_rfl) (Or.inr ⟨by kernel_rfl, rfl⟩) S1.out ?_
       simp only [aP, sT, sZ, sS]
       refine zh (i := 26) (d := 50) (v := undef) rfl (by rfl) (by kernel_rfl) (by kernel_rfl) (fun _ _ _ h => by cases h.1) _ (by kernel_rfl) (by kernel_rfl) (Or.inr ⟨by kernel_rfl, rfl⟩) S1.out ?_
       simp only [aP, sT, sZ, sS]
       refine zl27 27 51 (.bool true) rfl (.inl ⟨by kernel_rfl, ?_⟩) S1.out ?_
       ·rintro w' ⟨z0, z1, z2, z3, z4, z5⟩
        go_simp
       simp only [aP, sT, sZ, sS]
       refine zg (by kernel_rfl) ?_ _
       rw [Hblt.out]
       exact ⟨rfl, O ι dt, σ (some ⟨b, off, none⟩) n cap, O ι p, π (some ⟨b, off + p * 3, none⟩), γ #[O ι u0, .float .f64 u1, .float .f64 u2], σ (some ⟨b, off, none⟩) n cap, O ι q, π (some ⟨b, off + q * 3, none⟩), γ #[O ι v0, .float .f64 v1, .float .f64 v2], .bool true, .bool true, undef, undef, undef, undef, undef, undef, undef, undef, undef, undef, undef, undef, undef, undef, undef, undef, by kernel_rfl, XW.out⟩
      rintro a' W1 ⟨y24, y25, y26, y27, y28, y29, y30, y31, y32, y33, y34, y35, y36, y37, y38, y39, y40, y41, y42, y43, y44, y45, y46, y47, y48, y49, y50, rfl, xx⟩
      have HE := hide (HEND.out W1 xx)
      clear xx c10 c11 c12 c20 c21 c22 SA
      simp only [aP, sT, sZ, sS]
      cases hb : blt f dt p q with
      | true =>
       have HC2 : Hid (cnt (fun j => blt f dt j q) (p + 1) = ct + 1) := by show _ = _; rw [HCT.out, hb]; rfl
       clear hb
       go_wp2
       go_roundw
       ·exact ⟨p + 1, by rw [HC2.out]; go_num, by go_num, by omega, HE.out.1, HE.out.2⟩
       ·simp [intOf]; omega
      | false =>
       have HC2 : Hid (cnt (fun j => blt f dt j q) (p + 1) = ct) := by show _ = _; rw [HCT.out, hb]; rfl
       clear hb
       go_wp2
       go_roundw
       ·exact ⟨p + 1, by rw [HC2.out], by go_num, by omega, HE.out.1, HE.out.2⟩
       ·simp [intOf]; omega
     | false =>
      by_cases hpq : p < q
      ·have hd2 : decide ((p : Int) < (q : Int)) = true := decide_eq_true (by omega)
       have Hblt : Hid (blt f dt p q = !befB dt v0 v1 v2 u0 u1 u2) := by show _ = _; rw [Hbl.out, ht1, decide_eq_true hpq]; rfl
       have SA : Hid ((fun w' : World => w'.cell? ⟨b, off + p * 3, none⟩ = some (O ι u0) ∧ w'.cell? ⟨b, off + p * 3 + 1, none⟩ = some (.float .f64 u1) ∧ w'.cell? ⟨b, off + p * 3 + 2, none⟩ = some (.float .f64 u2) ∧ w'.cell? ⟨b, off + q * 3, none⟩ = some (O ι v0) ∧ w'.cell? ⟨b, off + q * 3 + 1, none⟩ = some (.float .f64 v1) ∧ w'.cell? ⟨b, off + q * 3 + 2, none⟩ = some (.float .f64 v2)) wr.drew) := ⟨c10, c11, c12, c20, c21, c22⟩
       refine zq (fun ac a' w' => ∃ (y24 y25 y26 y27 y28 y29 y30 y31 y32 y33 y34 y35 y36 y37 y38 y39 y40 y41 y42 y43 y44 y45 y46 y47 y48 y49 y50 : Value), a' = ((((((((((((((((((((((((((((ac.put (some 24) (y24)).put (some 25) (y25)).put (some 26) (y26)).put (some 27) (y27)).put (some 28) (y28)).put (some 29) (y29)).put (some 30) (y30)).put (some 31) (y31)).put (some 32) (y32)).put (some 33) (y33)).put (some 34) (y34)).put (some 35) (y35)).put (some 36) (y36)).put (some 37) (y37)).put (some 38) (y38)).put (some 39) (y39)).put (some 40) (y40)).put (some 41) (y41)).put (some 42) (y42)).put (some 43) (y43)).put (some 44) (y44)).put (some 45) (y45)).put (some 46) (y46)).put (some 47) (y47)).put (some 48) (y48)).put (some 49) (y49)).put (some 50) (y50)).put (some 51) (.bool (blt f dt p q))) ∧ Ext wr w') (S := (fun w' : World => w'.cell? ⟨b, off + p * 3, none⟩ = some (O ι u0) ∧ w'.cell? ⟨b, off + p * 3 + 1, none⟩ = some (.float .f64 u1) ∧ w'.cell? ⟨b, off + p * 3 + 2, none⟩ = some (.float .f64 u2) ∧ w'.cell? ⟨b, off + q * 3, none⟩ = some (O ι v0) ∧ w'.cell? ⟨b, off + q * 3 + 1, none⟩ = some (.float .f64 v1) ∧ w'.cell? ⟨b, off + q * 3 + 2, none⟩ = some (.float .f64 v2))) (late := []) (by kernel_rfl) ?_ ?_
       rotate_left
       ·have XW : Hid (Ext wr wr.drew) := (Ext.refl wr).drew
        refine zl27 0 24 (O ι dt) rfl (.inl ⟨by kernel_rfl, ?_⟩) SA.out ?_
        ·rintro w' ⟨z0, z1, z2, z3, z4, z5⟩
         go_simp
        simp only [aP, sT, sZ, sS]
        refine zl27 1 25 (σ (some ⟨b, off, none⟩) n cap) rfl (.inl ⟨by kernel_rfl, ?_⟩) SA.out ?_
        ·rintro w' ⟨z0, z1, z2, z3, z4, z5⟩
         go_simp
        simp only [aP, sT, sZ, sS]
        refine zl27 2 26 (O ι p) rfl (.inl ⟨by kernel_rfl, ?_⟩) SA.out ?_
        ·rintro w' ⟨z0, z1, z2, z3, z4, z5⟩
         go_simp
        simp only [aP, sT, sZ, sS]
        refine zl27 3 27 (π (some ⟨b, off + p * 3, none⟩)) rfl (.inl ⟨by kernel_rfl, ?_⟩) SA.out ?_
        ·rintro w' ⟨z0, z1, z2, z3, z4, z5⟩
         go_simp
        simp only [aP, sT, sZ, sS]
        refine zl27 4 28 (γ #[O ι u0, .float .f64 u1, .float .f64 u2]) rfl (.inl ⟨by kernel_rfl, ?_⟩) SA.out ?_
        ·rintro w' ⟨z0, z1, z2, z3, z4, z5⟩
         go_simp
        simp only [aP, sT, sZ, sS]
        refine zl27 5 29 (σ (some ⟨b, off, none⟩) n cap) rfl (.inl ⟨by kernel_rfl, ?_⟩) SA.out ?_
        ·rintro w' ⟨z0, z1, z2, z3, z4, z5⟩
         go_simp
        simp only [aP, sT, sZ, sS]
        refine zl27 6 30 (O ι q) rfl (.inl ⟨by kernel_rfl, ?_⟩) SA.out ?_
        ·rintro w' ⟨z0, z1, z2, z3, z4, z5⟩
         go_simp
        simp only [aP, sT, sZ, sS]
        refine zl27 7 31 (π (some ⟨b, off + q * 3, none⟩)) rfl (.inl ⟨by kernel_rfl, ?_⟩) SA.out ?_
        ·rintro w' ⟨z0, z1, z2, z3, z4, z5⟩
         go_simp
        simp only [aP, sT, sZ, sS]
        refine zl27 8 32 (γ #[O ι v0, .float .f64 v1, .float .f64 v2]) rfl (.inl ⟨by kernel_rfl, ?_⟩) SA.out ?_
        ·rintro w' ⟨z0, z1, z2, z3, z4, z5⟩
         go_simp
        simp only [aP, sT, sZ, sS]
        refine ze (i := 9) (by kernel_rfl) rfl (fun K hK => ?_)
        go_simp
        refine (HB1.out wr.drew).mono ?_
        rintro e2 t1 ⟨rfl, xx⟩
        replace XW := hide (XW.out.trans xx)
        have S1 : Hid ((fun w' : World => w'.cell? ⟨b, off + p * 3, none⟩ = some (O ι u0) ∧ w'.cell? ⟨b, off + p * 3 + 1, none⟩ = some (.float .f64 u1) ∧ w'.cell? ⟨b, off + p * 3 + 2, none⟩ = some (.float .f64 u2) ∧ w'.cell? ⟨b, off + q * 3, none⟩ = some (O ι v0) ∧ w'.cell? ⟨b, off + q * 3 + 1, none⟩ = some (.float .f64 v1) ∧ w'.cell? ⟨b, off + q * 3 + 2, none⟩ = some (.float .f64 v2)) t1) := ⟨XW.out.box c10, XW.out.box c11, XW.out.box c12, XW.out.box c20, XW.out.box c21, XW.out.box c22⟩
        clear xx
        refine hK.out _ _ (fun _ => S1.out) ?_
        clear hK K
        try simp only [aP, sT, sZ, sS]
        rw [ht1]
        refine zl27 10 34 (.bool false) rfl (.inl ⟨by kernel_rfl, ?_⟩) S1.out ?_
        ·rintro w' ⟨z0, z1, z2, z3, z4, z5⟩
         go_simp
        simp only [aP, sT, sZ, sS]
        refine zl27 11 35 (O ι p) rfl (.inl ⟨by kernel_rfl, ?_⟩) S1.out ?_
        ·rintro w' ⟨z0, z1, z2, z3, z4, z5⟩
         go_simp
        simp only [aP, sT, sZ, sS]
        refine zl27 12 36 (O ι q) rfl (.inl ⟨by kernel_rfl, ?_⟩) S1.out ?_
        ·rintro w' ⟨z0, z1, z2, z3, z4, z5⟩
         go_simp
        simp only [aP, sT, sZ, sS]
        refine zl27 13 37 (.bool true) rfl (.inl ⟨by kernel_rfl, ?_⟩) S1.out ?_
        ·rintro w' ⟨z0, z1, z2, z3, z4, z5⟩
         go_simp
        simp only [aP, sT, sZ, sS]
        refine zl27 14 38 (.bool true) rfl (.inl ⟨by kernel_rfl, ?_⟩) S1.out ?_
        ·rintro w' ⟨z0, z1, z2, z3, z4, z5⟩
         go_simp
        simp only [aP, sT, sZ, sS]
        refine zl27 15 39 (O ι dt) rfl (.inl ⟨by kernel_rfl, ?_⟩) S1.out ?_
        ·rintro w' ⟨z0, z1, z2, z3, z4, z5⟩
         go_simp
        simp only [aP, sT, sZ, sS]
        refine zl27 16 40 (σ (some ⟨b, off, none⟩) n cap) rfl (.inl ⟨by kernel_rfl, ?_⟩) S1.out ?_
        ·rintro w' ⟨z0, z1, z2, z3, z4, z5⟩
         go_simp
        simp only [aP, sT, sZ, sS]
        refine zl27 17 41 (O ι q) rfl (.inl ⟨by kernel_rfl, ?_⟩) S1.out ?_
        ·rintro w' ⟨z0, z1, z2, z3, z4, z5⟩
         go_simp
        simp only [aP, sT, sZ, sS]
        refine zl27 18 42 (π (some ⟨b, off + q * 3, none⟩)) rfl (.inl ⟨by kernel_rfl, ?_⟩) S1.out ?_
        ·rintro w' ⟨z0, z1, z2, z3, z4, z5⟩
         go_simp
        simp only [aP, sT, sZ, sS]
        refine zl27 19 43 (γ #[O ι v0, .float .f64 v1, .float .f64 v2]) rfl (.inl ⟨by kernel_rfl, ?_⟩) S1.out ?_
        ·rintro w' ⟨z0, z1, z2, z3, z4, z5⟩
         go_simp
        simp only [aP, sT, sZ, sS]
        refine zl27 20 44 (σ (some ⟨b, off, none⟩) n cap) rfl (.inl ⟨by kernel_rfl, ?_⟩) S1.out ?_
        ·rintro w' ⟨z0, z1, z2, z3, z4, z5⟩
         go_simp
        simp only [aP, sT, sZ, sS]
        refine zl27 21 45 (O ι p) rfl (.inl ⟨by kernel_rfl, ?_⟩) S1.out ?_
        ·rintro w' ⟨z0, z1, z2, z3, z4, z5⟩
         go_simp
        simp only [aP, sT, sZ, sS]
        refine zl27 22 46 (π (some ⟨b, off + p * 3, none⟩)) rfl (.inl ⟨by kernel_rfl, ?_⟩) S1.out ?_
        ·rintro w' ⟨z0, z1, z2, z3, z4, z5⟩
         go_simp
        simp only [aP, sT, sZ, sS]
        refine zl27 23 47 (γ #[O ι u0, .float .f64 u1, .float .f64 u2]) rfl (.inl ⟨by kernel_rfl, ?_⟩) S1.out ?_
        ·rintro w' ⟨z0, z1, z2, z3, z4, z5⟩
         go_simp
        simp only [aP, sT, sZ, sS]
        refine ze (i := 24) (by kernel_rfl) rfl (fun K hK => ?_)
        go_simp
        refine (HB2.out t1).mono ?_
        rintro e2 t2 ⟨rfl, xx⟩
        replace XW := hide (XW.out.trans xx)
        have S2 : Hid ((fun w' : World => w'.cell? ⟨b, off + p * 3, none⟩ = some (O ι u0) ∧ w'.cell? ⟨b, off + p * 3 + 1, none⟩ = some (.float .f64 u1) ∧ w'.cell? ⟨b, off + p * 3 + 2, none⟩ = some (.float .f64 u2) ∧ w'.cell? ⟨b, off + q * 3, none⟩ = some (O ι v0) ∧ w'.cell? ⟨b, off + q * 3 + 1, none⟩ = some (.float .f64 v1) ∧ w'.cell? ⟨b, off + q * 3 + 2, none⟩ = some (.float .f64 v2)) t2) := ⟨XW.out.box c10, XW.out.box c11, XW.out.box c12, XW.out.box c20, XW.out.box c21, XW.out.box c22⟩
        clear xx
        refine hK.out _ _ (fun _ => S2.out) ?_
        clear hK K
        try simp only [aP, sT, sZ, sS]
        refine zl27 25 49 (.bool (!befB dt v0 v1 v2 u0 u1 u2)) rfl (.inl ⟨by kernel_rfl, ?_⟩) S2.out ?_
        ·rintro w' ⟨z0, z1, z2, z3, z4, z5⟩
         go_simp
        simp only [aP, sT, sZ, sS]
        refine zl27 26 50 (.bool (!befB dt v0 v1 v2 u0 u1 u2)) rfl (.inl ⟨by kernel_rfl, ?_⟩) S2.out ?_
        ·rintro w' ⟨z0, z1, z2, z3, z4, z5⟩
         go_simp
        simp only [aP, sT, sZ, sS]
        refine zl27 27 51 (.bool (!befB dt v0 v1 v2 u0 u1 u2)) rfl (.inl ⟨by kernel_rfl, ?_⟩) S2.out ?_
        ·rintro w' ⟨z0, z1, z2, z3, z4, z5⟩
         go_simp
        simp only [aP, sT, sZ, sS]
        refine zg (by kernel_rfl) ?_ _
        rw [Hblt.out]
        exact ⟨rfl, O ι dt, σ (some ⟨b, off, none⟩) n cap, O ι p, π (some ⟨b, off + p * 3, none⟩), γ #[O ι u0, .float .f64 u1, .float .f64 u2], σ (some ⟨b, off, none⟩) n cap, O ι q, π (some ⟨b, off + q * 3, none⟩), γ #[O ι v0, .float .f64 v1, .float .f64 v2], .bool false, .bool false, O ι p, O ι q, .bool true, .bool true, O ι dt, σ (some ⟨b, off, none⟩) n cap, O ι q, π (some ⟨b, off + q * 3, none⟩), γ #[O ι v0, .float .f64 v1, .float .f64 v2], σ (some ⟨b, off, none⟩) n cap, O ι p, π (some ⟨b, off + p * 3, none⟩), γ #[O ι u0, .float .f64 u1, .float .f64 u2], .bool (befB dt v0 v1 v2 u0 u1 u2), .bool (!befB dt v0 v1 v2 u0 u1 u2), .bool (!befB dt v0 v1 v2 u0 u1 u2), by kernel_rfl, XW.out⟩
       rintro a' W1 ⟨y24, y25, y26, y27, y28, y29, y30, y31, y32, y33, y34, y35, y36, y37, y38, y39, y40, y41, y42, y43, y44, y45, y46, y47, y48, y49, y50, rfl, xx⟩
       have HE := hide (HEND.out W1 xx)
       clear xx c10 c11 c12 c20 c21 c22 SA
       simp only [aP, sT, sZ, sS]
       cases hb : blt f dt p q with
       | true =>
        have HC2 : Hid (cnt (fun j => blt f dt j q) (p + 1) = ct + 1) := by show _ = _; rw [HCT.out, hb]; rfl
        clear hb
        go_wp2
        go_roundw
        ·exact ⟨p + 1, by rw [HC2.out]; go_num, by go_num, by omega, HE.out.1, HE.out.2⟩
        ·simp [intOf]; omega
       | false =>
        have HC2 : Hid (cnt (fun j => blt f dt j q) (p + 1) = ct) := by show _ = _; rw [HCT.out, hb]; rfl
        clear hb
        go_wp2
        go_roundw
        ·exact ⟨p + 1, by rw [HC2.out], by go_num, by omega, HE.out.1, HE.out.2⟩
        ·simp [intOf]; omega
      ·have hd2 : decide ((p : Int) < (q : Int)) = false := decide_eq_false (by omega)
       have Hblt : Hid (blt f dt p q = false) := by show _ = _; rw [Hbl.out, ht1, decide_eq_false hpq]; rfl
       have SA : Hid ((fun w' : World => w'.cell? ⟨b, off + p * 3, none⟩ = some (O ι u0) ∧ w'.cell? ⟨b, off + p * 3 + 1, none⟩ = some (.float .f64 u1) ∧ w'.cell? ⟨b, off + p * 3 + 2, none⟩ = some (.float .f64 u2) ∧ w'.cell? ⟨b, off + q * 3, none⟩ = some (O ι v0) ∧ w'.cell? ⟨b, off + q * 3 + 1, none⟩ = some (.float .f64 v1) ∧ w'.cell? ⟨b, off + q * 3 + 2, none⟩ = some (.float .f64 v2)) wr.drew) := ⟨c10, c11, c12, c20, c21, c22⟩
       refine zq (fun ac a' w' => ∃ (y24 y25 y26 y27 y28 y29 y30 y31 y32 y33 y34 y35 y36 y37 y38 y39 y40 y41 y42 y43 y44 y45 y46 y47 y48 y49 y50 : Value), a' = ((((((((((((((((((((((((((((ac.put (some 24) (y24)).put (some 25) (y25)).put (some 26) (y26)).put (some 27) (y27)).put (some 28) (y28)).put (some 29) (y29)).put (some 30) (y30)).put (some 31) (y31)).put (some 32) (y32)).put (some 33) (y33)).put (some 34) (y34)).put (some 35) (y35)).put (some 36) (y36)).put (some 37) (y37)).put (some 38) (y38)).put (some 39) (y39)).put (some 40) (y40)).put (some 41) (y41)).put (some 42) (y42)).put (some 43) (y43)).put (some 44) (y44)).put (some 45) (y45)).put (some 46) (y46)).put (some 47) (y47)).put (some 48) (y48)).put (some 49) (y49)).put (some 50) (y50)).put (some 51) (.bool (blt f dt p q))) ∧ Ext wr w') (S := (fun w' : World => w'.cell? ⟨b, off + p * 3, none⟩ = some (O ι u0) ∧ w'.cell? ⟨b, off + p * 3 + 1, none⟩ = some (.float .f64 u1) ∧ w'.cell? ⟨b, off + p * 3 + 2, none⟩ = some (.float .f64 u2) ∧ w'.cell? ⟨b, off + q * 3, none⟩ = some (O ι v0) ∧ w'.cell? ⟨b, off + q * 3 + 1, none⟩ = some (.float .f64 v1) ∧ w'.cell? ⟨b, off + q * 3 + 2, none⟩ = some (.float .f64 v2))) (late := []) (by kernel_rfl) ?_ ?_
       rotate_left
       ·have XW : Hid (Ext wr wr.drew) := (Ext.refl wr).drew
        refine zl27 0 24 (O ι dt) rfl (.inl ⟨by kernel_rfl, ?_⟩) SA.out ?_
        ·rintro w' ⟨z0, z1, z2, z3, z4, z5⟩
         go_simp
        simp only [aP, sT, sZ, sS]
        refine zl27 1 25 (σ (some ⟨b, off, none⟩) n cap) rfl (.inl ⟨by kernel_rfl, ?_⟩) SA.out ?_
        ·rintro w' ⟨z0, z1, z2, z3, z4, z5⟩
         go_simp
        simp only [aP, sT, sZ, sS]
        refine zl27 2 26 (O ι p) rfl (.inl ⟨by kernel_rfl, ?_⟩) SA.out ?_
        ·rintro w' ⟨z0, z1, z2, z3, z4, z5⟩
         go_simp
        simp only [aP, sT, sZ, sS]
        refine zl27 3 27 (π (some ⟨b, off + p * 3, none⟩)) rfl (.inl ⟨by kernel_rfl, ?_⟩) SA.out ?_
        ·rintro w' ⟨z0, z1, z2, z3, z4, z5⟩
         go_simp
        simp only [aP, sT, sZ, sS]
        refine zl27 4 28 (γ #[O ι u0, .float .f64 u1, .float .f64 u2]) rfl (.inl ⟨by kernel_rfl, ?_⟩) SA.out ?_
        ·rintro w' ⟨z0, z1, z2, z3, z4, z5⟩
         go_simp
        simp only [aP, sT, sZ, sS]
        refine zl27 5 29 (σ (some ⟨b, off, none⟩) n cap) rfl (.inl ⟨by kernel_rfl, ?_⟩) SA.out ?_
        ·rintro w' ⟨z0, z1, z2, z3, z4, z5⟩
         go_simp
        simp only [aP, sT, sZ, sS]
        refine zl27 6 30 (O ι q) rfl (.inl ⟨by kernel_rfl, ?_⟩) SA.out ?_
        ·rintro w' ⟨z0, z1, z2, z3, z4, z5⟩
         go_simp
        simp only [aP, sT, sZ, sS]
        refine zl27 7 31 (π (some ⟨b, off + q * 3, none⟩)) rfl (.inl ⟨by kernel_rfl, ?_⟩) SA.out ?_
        ·rintro w' ⟨z0, z1, z2, z3, z4, z5⟩
         go_simp
        simp only [aP, sT, sZ, sS]
        refine zl27 8 32 (γ #[O ι v0, .float .f64 v1, .float .f64 v2]) rfl (.inl ⟨by kernel_rfl, ?_⟩) SA.out ?_
        ·rintro w' ⟨z0, z1, z2, z3, z4, z5⟩
         go_simp
        simp only [aP, sT, sZ, sS]
        refine ze (i := 9) (by kernel_rfl) rfl (fun K hK => ?_)
        go_simp
        refine (HB1.out wr.drew).mono ?_
        rintro e2 t1 ⟨rfl, xx⟩
        replace XW := hide (XW.out.trans xx)
        have S1 : Hid ((fun w' : World => w'.cell? ⟨b, off + p * 3, none⟩ = some (O ι u0) ∧ w'.cell? ⟨b, off + p * 3 + 1, none⟩ = some (.float .f64 u1) ∧ w'.cell? ⟨b, off + p * 3 + 2, none⟩ = some (.float .f64 u2) ∧ w'.cell? ⟨b, off + q * 3, none⟩ = some (O ι v0) ∧ w'.cell? ⟨b, off + q * 3 + 1, none⟩ = some (.float .f64 v1) ∧ w'.cell? ⟨b, off + q * 3 + 2, none⟩ = some (.float .f64 v2)) t1) := ⟨XW.out.box c10, XW.out.box c11, XW.out.box c12, XW.out.box c20, XW.out.box c21, XW.out.box c22⟩
        clear xx
        refine hK.out _ _ (fun _ => S1.out) ?_
        clear hK K
        try simp only [aP, sT, sZ, sS]
        rw [ht1]
        refine zl27 10 34 (.bool false) rfl (.inl ⟨by kernel_rfl, ?_⟩) S1.out ?_
        ·rintro w' ⟨z0, z1, z2, z3, z4, z5⟩
         go_simp
        simp only [aP, sT, sZ, sS]
        refine zl27 11 35 (O ι p) rfl (.inl ⟨by kernel_rfl, ?_⟩) S1.out ?_
        ·rintro w' ⟨z0, z1, z2, z3, z4, z5⟩
         go_simp
        simp only [aP, sT, sZ, sS]
        refine zl27 12 36 (O ι q) rfl (.inl ⟨by kernel_rfl, ?_⟩) S1.out ?_
        ·rintro w' ⟨z0, z1, z2, z3, z4, z5⟩
         go_simp
        simp only [aP, sT, sZ, sS]
        refine zl27 13 37 (.bool false) rfl (.inl ⟨by kernel_rfl, ?_⟩) S1.out ?_
        ·rintro w' ⟨z0, z1, z2, z3, z4, z5⟩
         go_simp
        simp only [aP, sT, sZ, sS]
        refine zl27 14 38 (.bool false) rfl (.inl ⟨by kernel_rfl, ?_⟩) S1.out ?_
        ·rintro w' ⟨z0, z1, z2, z3, z4, z5⟩
         go_simp
        simp only [aP, sT, sZ, sS]
        refine zh (i := 15) (d := 39) (v := undef) rfl (by rfl) (by kernel_rfl) (by kernel_rfl) (fun _ _ _ h => by cases h.1) _ (by kernel_rfl) (by kernel_rfl) (Or.inr ⟨by kernel_rfl, rfl⟩) S1.out ?_
        simp only [aP, sT, sZ, sS]
        refine zh (i := 16) (d := 40) (v := undef) rfl (by rfl) (by kernel_rfl) (by kernel_rfl) (fun _ _ _ h => by cases h.1) _ (by kernel_rfl) (by kernel_rfl) (Or.inr ⟨by kernel_rfl, rfl⟩) S1.out ?_
        simp only [aP, sT, sZ, sS]
        refine zh (i := 17) (d := 41) (v := undef) rfl (by rfl) (by kernel_rfl) (by kernel_rfl) (fun _ _ _ h => by cases h.1) _ (by kernel_rfl) (by kernel_rfl) (Or.inr ⟨by kernel_rfl, rfl⟩) S1.out ?_
        simp only [aP, sT, sZ, sS]
        refine zh (i := 18) (d := 42) (v := undef) rfl (by rfl) (by kernel_rfl) (by kernel_rfl) (fun _ _ _ h => by cases h.1) _ (by kernel_rfl) (by kernel_rfl) (Or.inr ⟨by kernel_rfl, rfl⟩) S1.out ?_
        simp only [aP, sT, sZ, sS]
        refine zh (i := 19) (d := 43) (v := undef) rfl (by rfl) (by kernel_rfl) (by kernel_rfl) (fun _ _ _ h => by cases h.1) _ (by kernel_rfl) (by kernel_rfl) (Or.inr ⟨by kernel_rfl, rfl⟩) S1.out ?_
        simp only [aP, sT, sZ, sS]
        refine zh (i := 20) (d := 44) (v := undef) rfl (by rfl) (by kernel_rfl) (by kernel_rfl) (fun _ _ _ h => by cases h.1) _ (by kernel_rfl) (by kernel_rfl) (Or.inr ⟨by kernel_rfl, rfl⟩) S1.out ?_
        simp only [aP, sT, sZ, sS]
        refine zh (i := 21) (d := 45) (v := undef) rfl (by rfl) (by kernel_rfl) (by kernel_rfl) (fun _ _ _ h => by cases h.1) _ (by kernel_rfl) (by kernel_rfl) (Or.inr ⟨by kernel_rfl, rfl⟩) S1.out ?_
        simp only [aP, sT, sZ, sS]
        refine zh (i := 22) (d := 46) (v := undef) rfl (by rfl) (by kernel_rfl) (by kernel_rfl) (fun _ _ _ h => by cases h.1) _ (by kernel_rfl) (by kernel_rfl) (Or.inr ⟨by kernel_rfl, rfl⟩) S1.out ?_
        simp only [aP, sT, sZ, sS]
        refine zh (i := 23) (d := 47) (v := undef) rfl (by rfl) (by kernel_rfl) (by kernel_rfl) (fun _ _ _ h => by cases h.1) _ (by kernel_rfl) (by kernel_rfl) (Or.inr ⟨by kernel_rfl, rfl⟩) S1.out ?_
        simp only [aP, sT, sZ, sS]
        refine zh (i := 24) (d := 48) (v := undef) rfl (by rfl) (by kernel_rfl) (by kernel_rfl) (fun _ _ _ h => by cases h.1) _ (by kernel_rfl) (by kernel_rfl) (Or.inr ⟨by kernel_rfl, rfl⟩) S1.out ?_
        simp only [aP, sT, sZ, sS]
        refine zh (i := 25) (d := 49) (v := undef) rfl (by rfl) (by kernel_rfl) (by kernel_rfl) (fun _ _ _ h => by cases h.1) _ (by kernel_rfl) (by kernel_rfl) (Or.inr ⟨by kernel_rfl, rfl⟩) S1.out ?_
        simp only [aP, sT, sZ, sS]
        refine zl27 26 50 (.bool false) rfl (.inl ⟨by kernel_rfl, ?_⟩) S1.out ?_
        ·rintro w' ⟨z0, z1, z2, z3, z4, z5⟩
         go_simp
        simp only [aP, sT, sZ, sS]
        refine zl27 27 51 (.bool false) rfl (.inl ⟨by kernel_rfl, ?_⟩) S1.out ?_
        ·rintro w' ⟨z0, z1, z2, z3, z4, z5⟩
         go_simp
        simp only [aP, sT, sZ, sS]
        refine zg (by kernel_rfl) ?_ _
        rw [Hblt.out]
        exact ⟨rfl, O ι dt, σ (some ⟨b, off, none⟩) n cap, O ι p, π (some ⟨b, off + p * 3, none⟩), γ #[O ι u0, .float .f64 u1, .float .f64 u2], σ (some ⟨b, off, none⟩) n cap, O ι q, π (some ⟨b, off + q * 3, none⟩), γ #[O ι v0, .float .f64 v1, .float .f64 v2], .bool false, .bool false, O ι p, O ι q, .bool false, .bool false, undef, undef, undef, undef, undef, undef, undef, undef, undef, undef, undef, .bool false, by kernel_rfl, XW.out⟩
       rintro a' W1 ⟨y24, y25, y26, y27, y28, y29, y30, y31, y32, y33, y34, y35, y36, y37, y38, y39, y40, y41, y42, y43, y44, y45, y46, y47, y48, y49, y50, rfl, xx⟩
       have HE := hide (HEND.out W1 xx)
       clear xx c10 c11 c12 c20 c21 c22 SA
       simp only [aP, sT, sZ, sS]
       cases hb : blt f dt p q with
       | true =>
        have HC2 : Hid (cnt (fun j => blt f dt j q) (p + 1) = ct + 1) := by show _ = _; rw [HCT.out, hb]; rfl
        clear hb
        go_wp2
        go_roundw
        ·exact ⟨p + 1, by rw [HC2.out]; go_num, by go_num, by omega, HE.out.1, HE.out.2⟩
        ·simp [intOf]; omega
       | false =>
        have HC2 : Hid (cnt (fun j => blt f dt j q) (p + 1) = ct) := by show _ = _; rw [HCT.out, hb]; rfl
        clear hb
        go_wp2
        go_roundw
        ·exact ⟨p + 1, by rw [HC2.out], by go_num, by omega, HE.out.1, HE.out.2⟩
        ·simp [intOf]; omega
    ·obtain rfl : p = n := by omega
     have hd1 : decide ((p : Int) < (p : Int)) = false := decide_eq_false (by omega)
     have hcl : ct < p := by rw [← Hct.out]; exact zz22 (p := fun j => blt f dt j q) (i := q) (zm22 (HS.out q hlt)) p hlt
     have ho := zb6 f dt p q
     have q0 := HR.out ct (by omega)
     rw [Nat.zero_add] at q0
     have qf := HFZ.out wr HM.out ct
     have HSET : Hid (Row (wr.setCell ⟨w.heap.size, ct, none⟩ (O ι q)) w.heap.size 0 (ordL f dt p (q + 1))) := by
      have z := HR.out.set (k := ct) (by omega) (q : Int)
      rw [Nat.zero_add] at z
      show Row _ _ _ ((ordL f dt p q).set (rkN f dt p q) q)
      rw [show rkN f dt p q = ct from Hct.out]
      exact z
     have HM2 := hide (HM.out.setCell ct (O ι q))
     have b0 : (0 : Int) ≤ (ct : Int) := Int.natCast_nonneg _
     have b1 : (ct : Int) < (p : Int) := by omega
     have wq1 : IntKind.i64.wrap ((q : Int) + 1) = (q : Int) + 1 := wrap_small _ (by omega) (by omega)
     generalize (ordL f dt p q).getD ct 0 = old at q0
     clear ho
     go_wp2
     first
      | (go_roundw
         ·exact ⟨q + 1, by go_num, by omega, HSET.out, HM2.out⟩
         ·simp [intOf]; omega)
      | (refine ⟨⟨q + 1, by go_num, by omega, HSET.out, HM2.out⟩, ?_⟩
         simp [intOf]; omega)
  ·obtain rfl : q = n := by omega
   have hd : decide ((q : Int) < (q : Int)) = false := decide_eq_false (by omega)
   go_wp2
   go_ret
   exact ⟨_, rfl, Nat.le_refl _, HR.out, HM.out.ext HX.out (Nat.le_refl _)⟩
end
section
open Go.ChangeShapes Go.RowKit FL
def kqL (xs : List Int) (k : Int) : Nat → Int
 | 0 => k
 | c + 1 => kqL xs k c / xs.getD (xs.length - 1 - c) 0
def ixL (xs : List Int) (k : Int) : Nat → List Int
 | 0 => List.replicate xs.length 0
 | c + 1 => (ixL xs k c).set (xs.length - 1 - c) (kqL xs k c % xs.getD (xs.length - 1 - c) 0)
theorem zk7 (xs : List Int) (k : Int) : ∀ c, (ixL xs k c).length = xs.length
 | 0 => by simp [ixL]
 | c + 1 => by rw [ixL, List.length_set, zk7 xs k c]
theorem zx17 {i : Int} (h0 : -1 ≤ i) (h1 : i ≤ 1000000) : IntKind.i64.wrap i = i := by
 rcases Int.lt_or_le i 0 with z | z
 ·obtain rfl : i = -1 := by omega
  rfl
 ·exact wrap_small _ z (by omega)
theorem zn19 {xs : List Int} {k : Int} (hk : 0 ≤ k ∧ k ≤ 4096) (hx : ∀ i, i < xs.length → 0 < xs.getD i 0) : ∀ c, c ≤ xs.length → 0 ≤ kqL xs k c ∧ kqL xs k c ≤ 4096
 | 0, _ => hk
 | c + 1, h => by
  have q := zn19 hk hx c (by omega)
  have p := hx (xs.length - 1 - c) (by omega)
  rw [kqL]
  refine ⟨Int.ediv_nonneg q.1 (by omega), ?_⟩
  exact Int.le_trans (Int.ediv_le_self _ q.1) q.2
theorem zf7 {w : World} {b off cap : Nat} {xs : List Int} (h : Row w b off xs) (hbw : b < w.heap.size) (k : Int) (hk : 0 ≤ k ∧ k ≤ 4096) (hx : ∀ i, i < xs.length → 0 < xs.getD i 0 ∧ xs.getD i 0 ≤ 4096) (hn : xs.length ≤ 4) :
  Calls Tryz.prog 52 #[σ (some ⟨b, off, none⟩) xs.length cap, O ι k] w fun e w' => ∃ B, e = .returned (σ (some ⟨B, 0, none⟩) xs.length xs.length) ∧ w.heap.size ≤ B ∧ B < w'.heap.size ∧ Row w' B 0 (ixL xs k xs.length) ∧ Ext w w' := by
 have hmk := zg11 w xs.length (by omega)
 have XA : Ext w (w.alloc (χ (madeCells #[O ι 0] xs.length) 2)) := (Ext.refl w).alloc _ _
 have HX := hide XA
 have HR0 : Hid (Row (w.alloc (χ (madeCells #[O ι 0] xs.length) 2)) w.heap.size 0 (ixL xs k 0)) := zf15 w xs.length
 have HC := hide (h.ext XA)
 have HFZ : Hid (∀ W', Mut w.heap.size (w.alloc (χ (madeCells #[O ι 0] xs.length) 2)) W' → ∀ o, W'.frozen? ⟨w.heap.size, o, none⟩ = false) := fun W' x o => (x.fz _).trans (XA.unfrozen (Nat.le_refl _) o)
 have hWs : w.heap.size < (w.alloc (χ (madeCells #[O ι 0] xs.length) 2)).heap.size := by simp
 have HXs := hide hx
 have HKB := hide (zn19 hk (fun i hi => (hx i hi).1))
 obtain ⟨n, Hn⟩ : ∃ n, Hid (xs.length = n) := ⟨_, rfl⟩
 rw [Hn.out] at hmk HX HR0 HC HFZ hWs HXs HKB hn ⊢
 have w0 : IntKind.i64.wrap ((n : Int) - 1) = (n : Int) - 1 := zx17 (by omega) (by omega)
 clear h hx hk XA
 go_enter Tryz.func52, Tryz.ntmps52
 go_wp2
 generalize w.alloc (χ (madeCells #[O ι 0] n) 2) = WA at HX HR0 HC HFZ hWs hmk ⊢
 clear hmk
 go_loopw [1, 6] (fun x1 x6 wr => ∃ c : Nat, x1 = O ι (kqL xs k c) ∧ x6 = O ι ((n : Int) - 1 - c) ∧ c ≤ n ∧ Row wr w.heap.size 0 (ixL xs k c) ∧ Mut w.heap.size WA wr) (fun _ x6 _ => (intOf x6 + 1).toNat)
 case atStart => exact ⟨0, rfl, by simp, by omega, HR0.out, Mut.refl _ _⟩
 case round =>
  obtain ⟨c, rfl, rfl, hc, hr, hm⟩ := hrel
  have HM := hide hm
  have HR := hide hr
  clear hr hm HR0
  by_cases hlt : c < n
  ·obtain ⟨i, Hi⟩ : ∃ i, Hid (n - 1 - c = i) := ⟨_, rfl⟩
   have hin : i < n := by have := Hi.out; omega
   have ei : (n : Int) - 1 - (c : Int) = (i : Int) := by have := Hi.out; omega
   have hd : decide ((0 : Int) ≤ (i : Int)) = true := decide_eq_true (by omega)
   have b0 : (0 : Int) ≤ (i : Int) := Int.natCast_nonneg _
   have b1 : (i : Int) < (n : Int) := by omega
   have wi : IntKind.i64.wrap ((i : Int) - 1) = (i : Int) - 1 := zx17 (by omega) (by omega)
   have q0 := HC.out.mut HM.out (by omega) i (by rw [Hn.out]; exact hin)
   have q1 := HR.out i (by rw [zk7, Hn.out]; exact hin)
   rw [Nat.zero_add] at q1
   have qf := HFZ.out wr HM.out i
   have hxi := HXs.out i hin
   have hkc := HKB.out c hc
   have HK1 : Hid (kqL xs k (c + 1) = kqL xs k c / xs.getD i 0) := by show kqL xs k (c + 1) = _; rw [kqL, Hn.out, Hi.out]
   have HI1 : Hid (ixL xs k (c + 1) = (ixL xs k c).set i (kqL xs k c % xs.getD i 0)) := by show ixL xs k (c + 1) = _; rw [ixL, Hn.out, Hi.out]
   have HSET := hide (HR.out.set (k := i) (by rw [zk7, Hn.out]; exact hin) (kqL xs k c % xs.getD i 0))
   rw [Nat.zero_add, ← HI1.out] at HSET
   have HM2 := hide (HM.out.setCell i (O ι (kqL xs k c % xs.getD i 0)))
   have q2 := HC.out.mut HM2.out (by omega) i (by rw [Hn.out]; exact hin)
   generalize (ixL xs k c).getD i 0 = old at q1
   generalize xs.getD i 0 = x at q0 q2 hxi HK1 HI1 HSET HM2
   generalize hkk : kqL xs k c = kc at *
   have HKK := hide hkk
   clear hkk
   have t1 : Int.tdiv kc x = kc / x := Int.tdiv_eq_ediv_of_nonneg hkc.1
   have t2 : Int.tmod kc x = kc % x := Int.tmod_eq_emod_of_nonneg hkc.1
   have m0 : 0 ≤ kc / x ∧ kc / x ≤ 4096 := ⟨Int.ediv_nonneg hkc.1 (by omega), Int.le_trans (Int.ediv_le_self _ hkc.1) hkc.2⟩
   have m1 : 0 ≤ kc % x ∧ kc % x < x := ⟨Int.emod_nonneg _ (by omega), Int.emod_lt_of_pos _ hxi.1⟩
   have w1 : IntKind.i64.wrap (kc / x) = kc / x := wrap_small _ (by omega) (by omega)
   have w2 : IntKind.i64.wrap (kc % x) = kc % x := wrap_small _ (by omega) (by omega)
   have hx0 : ¬ x = 0 := by omega
   have hx1 : (x == 0) = false := beq_eq_false_iff_ne.2 hx0
   rw [ei]
   go_wp2
   go_roundw
   ·exact ⟨c + 1, congrArg (Value.int IntKind.i64) HK1.out.symm, by go_num, by omega, HSET.out, HM2.out⟩
   ·have := Hi.out
    simp [intOf] <;> omega
  ·obtain rfl : c = n := by omega
   have en : (c : Int) - 1 - (c : Int) = -1 := by omega
   rw [en]
   go_wp2
   go_ret
   have hmm := HM.out.size
   exact ⟨_, rfl, Nat.le_refl _, by omega, HR.out, HM.out.ext HX.out (Nat.le_refl _)⟩
def nuL (xs ix : List Int) : Nat → Int
 | 0 => 0
 | c + 1 => nuL xs ix c * xs.getD c 0 + ix.getD c 0
theorem zt22 {xs ix : List Int} (hx : ∀ i, i < xs.length → 0 ≤ xs.getD i 0 ∧ xs.getD i 0 ≤ 4096) (hi : ∀ i, i < xs.length → 0 ≤ ix.getD i 0 ∧ ix.getD i 0 ≤ 4096) : ∀ c, c ≤ xs.length → 0 ≤ nuL xs ix c ∧ nuL xs ix c ≤ 10000 ^ c
 | 0, _ => by simp [nuL]
 | c + 1, h => by
  have q := zt22 hx hi c (by omega)
  have p := hx c (by omega)
  have r := hi c (by omega)
  rw [nuL]
  have m1 : 0 ≤ nuL xs ix c * xs.getD c 0 := Int.mul_nonneg q.1 p.1
  have m2 : nuL xs ix c * xs.getD c 0 ≤ 10000 ^ c * 4096 := Int.mul_le_mul q.2 p.2 p.1 (by have := q.1; have := q.2; omega)
  have m3 : (1 : Int) ≤ 10000 ^ c := by have : (0 : Int) < 10000 ^ c := Int.pow_pos (by omega); omega
  rw [Int.pow_succ]
  omega
theorem zk11 {w : World} {b off cap d of2 cap2 : Nat} {xs ix : List Int} (h : Row w b off xs) (g : Row w d of2 ix) (hl : ix.length = xs.length) (hx : ∀ i, i < xs.length → 0 ≤ xs.getD i 0 ∧ xs.getD i 0 ≤ 4096) (hi : ∀ i, i < xs.length → 0 ≤ ix.getD i 0 ∧ ix.getD i 0 ≤ 4096) (hn : xs.length ≤ 4) :
  Calls Tryz.prog 95 #[σ (some ⟨b, off, none⟩) xs.length cap, σ (some ⟨d, of2, none⟩) ix.length cap2] w fun e w' => e = .returned (O ι (nuL xs ix xs.length)) ∧ Ext w w' := by
 have HB := hide (zt22 hx hi)
 have HR := hide h
 have HG := hide g
 have HXX := hide hx
 have HII := hide hi
 obtain ⟨n, Hn⟩ : ∃ n, Hid (xs.length = n) := ⟨_, rfl⟩
 obtain ⟨n2, Hn2⟩ : ∃ n2, Hid (ix.length = n2) := ⟨_, rfl⟩
 have hnn : n2 = n := by rw [← Hn.out, ← Hn2.out, hl]
 rw [Hn.out] at HB HXX HII hn ⊢
 rw [Hn2.out, hnn]
 have HN2 : Hid (ix.length = n) := by show _ = _; rw [Hn2.out, hnn]
 clear h g hx hi hl hnn Hn2
 go_enter Tryz.func95, Tryz.ntmps95
 go_wp2
 go_loopw [5, 6] (fun x5 x6 wr => ∃ c : Nat, x5 = O ι (nuL xs ix c) ∧ x6 = O ι c ∧ c ≤ n ∧ Ext w wr) (fun _ x6 _ => n - (intOf x6).toNat)
 case atStart => exact ⟨0, rfl, rfl, by omega, Ext.refl _⟩
 case round =>
  obtain ⟨c, rfl, rfl, hc, hxw⟩ := hrel
  have HX := hide hxw
  clear hxw
  by_cases hlt : c < n
  ·have hd : decide ((c : Int) < (n : Int)) = true := decide_eq_true (by omega)
   have b0 : (0 : Int) ≤ (c : Int) := Int.natCast_nonneg _
   have b1 : (c : Int) < (n : Int) := by omega
   have q0 := HX.out.box (HR.out c (by rw [Hn.out]; exact hlt))
   have q1 := HX.out.box (HG.out c (by rw [HN2.out]; exact hlt))
   have wc : IntKind.i64.wrap ((c : Int) + 1) = (c : Int) + 1 := wrap_small _ (by omega) (by omega)
   have hb := HB.out c hc
   have hb2 := HB.out (c + 1) (by omega)
   have hp : (10000 : Int) ^ c ≤ 10000 ^ 4 := by
    have : c = 0 ∨ c = 1 ∨ c = 2 ∨ c = 3 ∨ c = 4 := by omega
    rcases this with rfl | rfl | rfl | rfl | rfl <;> decide
   have hp2 : (10000 : Int) ^ (c + 1) ≤ 10000 ^ 4 := by
    have : c = 0 ∨ c = 1 ∨ c = 2 ∨ c = 3 := by omega
    rcases this with rfl | rfl | rfl | rfl <;> decide
   have hxi := HXX.out c hlt
   have hii := HII.out c hlt
   have HS : Hid (nuL xs ix (c + 1) = nuL xs ix c * xs.getD c 0 + ix.getD c 0) := rfl
   have hm1 : 0 ≤ nuL xs ix c * xs.getD c 0 := Int.mul_nonneg hb.1 hxi.1
   rw [HS.out] at hb2
   generalize xs.getD c 0 = x at q0 hxi HS hm1 hb2
   generalize ix.getD c 0 = y at q1 hii HS hb2
   generalize nuL xs ix c = k at hb HS hm1 hb2 ⊢
   have hbig : (10000 : Int) ^ 4 = 10000000000000000 := by decide
   rw [hbig] at hp hp2
   have w1 : IntKind.i64.wrap (k * x) = k * x := wrap_small _ hm1 (by omega)
   have w2 : IntKind.i64.wrap (k * x + y) = k * x + y := wrap_small _ hb2.1 (by omega)
   clear hp hp2 hbig hb hb2
   go_wp2_with fail
   go_region
   go_wp2
   have HXd := hide (HX.out.trans (Ext.refl wr).drew)
   go_roundw
   ·exact ⟨c + 1, congrArg (Value.int IntKind.i64) HS.out.symm, by go_num, by omega, HXd.out⟩
   ·simp [intOf] <;> omega
  ·obtain rfl : c = n := by omega
   have hd : decide ((c : Int) < (c : Int)) = false := decide_eq_false (by omega)
   go_wp2
   go_ret
   exact ⟨rfl, HX.out⟩
end
section
def idxL : List Int → Nat → List Int
 | [], _ => []
 | n :: ns, k => ((k / plen ns % n.toNat : Nat) : Int) :: idxL ns k
def dotL : List Int → List Int → Int
 | s :: ss, i :: is => i * s + dotL ss is
 | _, _ => 0
theorem zc2 (xs : List Int) (k : Nat) : (idxL xs k).length = xs.length := by
 induction xs with
 | nil => rfl
 | cons n ns ih => simp [idxL, ih]
theorem zc6 (xs : List Int) (c k : Nat) : idxL xs (k % (c * plen xs)) = idxL xs k := by
 induction xs generalizing c with
 | nil => rfl
 | cons n ns ih =>
  unfold idxL
  have e : c * plen (n :: ns) = (c * n.toNat) * plen ns := by rw [plen, Nat.mul_assoc]
  rw [e, ih]
  congr 2
  rw [Nat.mod_mul_left_div_self, Nat.mod_mul_left_mod]
theorem zs24 {F : Nat → List Int} {m : Nat} (hm : ∀ i, (F i).length = m) (h0 : 0 < m) : ∀ n k, k < n * m → ((List.range n).flatMap F)[k]? = (F (k / m))[k % m]? := by
 intro n
 induction n with
 | zero => intro k hk; omega
 | succ n ih =>
  intro k hk
  have hl : ((List.range n).flatMap F).length = n * m := by
   clear ih hk
   induction n with
   | zero => simp
   | succ n ih => rw [List.range_succ, List.flatMap_append, List.length_append, ih, Nat.succ_mul]; simp [hm]
  rw [List.range_succ, List.flatMap_append]
  by_cases h : k < n * m
  ·rw [List.getElem?_append_left (by omega)]
   exact ih k h
  ·rw [List.getElem?_append_right (by omega), hl]
   rw [Nat.succ_mul] at hk
   have e1 : k / m = n := by
    rw [Nat.div_eq_iff h0]
    constructor
    ·omega
    ·omega
   have e2 : k - n * m = k % m := by
    have := Nat.div_add_mod k m
    rw [e1, Nat.mul_comm] at this
    omega
   rw [e1, e2]
   simp
theorem zu6 : ∀ (xs ss : List Int) (off : Int) (k : Nat), xs.length = ss.length → (∀ n ∈ xs, 1 ≤ n) → k < plen xs → (places xs ss off)[k]? = some (off + dotL ss (idxL xs k))
 | [], ss, off, k, _, _, hk => by
  have : k = 0 := by simp [plen] at hk; omega
  subst this
  cases ss <;> simp [places, dotL, idxL]
 | n :: ns, [], off, k, h, _, _ => by simp at h
 | n :: ns, s :: ss, off, k, h, hp, hk => by
  have hl : ns.length = ss.length := by simpa using h
  have hp' : ∀ m ∈ ns, 1 ≤ m := fun m hm => hp m (List.mem_cons_of_mem _ hm)
  have h1 := zp4 ns hp'
  rw [plen] at hk
  rw [places, zs24 (fun i => zq1 ns ss _ hl) (by omega) n.toNat k hk]
  rw [zu6 ns ss _ (k % plen ns) hl hp' (Nat.mod_lt _ (by omega))]
  have e := zc6 ns 1 k
  rw [Nat.one_mul] at e
  rw [e]
  have hd : k / plen ns < n.toNat := (Nat.div_lt_iff_lt_mul (by omega)).2 hk
  show some _ = some (off + dotL (s :: ss) (((k / plen ns % n.toNat : Nat) : Int) :: idxL ns k))
  rw [Nat.mod_eq_of_lt hd, dotL]
  congr 1
  omega
def InX : List Int → List Int → Prop
 | [], [] => True
 | n :: ns, i :: is => (0 ≤ i ∧ i < n) ∧ InX ns is
 | _, _ => False
def numL : List Int → List Int → Nat
 | _ :: ns, i :: is => i.toNat * plen ns + numL ns is
 | _, _ => 0
theorem InX.len : ∀ {xs is : List Int}, InX xs is → is.length = xs.length
 | [], [], _ => rfl
 | n :: ns, i :: is, h => by simp [InX.len h.2]
theorem zw10 : ∀ {xs is : List Int}, InX xs is → numL xs is < plen xs
 | [], [], _ => by simp [numL, plen]
 | n :: ns, i :: is, h => by
  have q := zw10 h.2
  have e : i.toNat < n.toNat := by have := h.1; omega
  have : (i.toNat + 1) * plen ns ≤ n.toNat * plen ns := Nat.mul_le_mul_right _ e
  rw [Nat.add_mul, Nat.one_mul] at this
  simp only [numL, plen]
  omega
theorem zm24 (xs : List Int) (c k : Nat) : idxL xs (c * plen xs + k) = idxL xs k := by
 rw [← zc6 xs 1 (c * plen xs + k), ← zc6 xs 1 k, Nat.one_mul, Nat.add_comm, Nat.add_mul_mod_self_right]
theorem zz9 : ∀ {xs is : List Int}, InX xs is → idxL xs (numL xs is) = is
 | [], [], _ => rfl
 | n :: ns, i :: is, h => by
  have q := zw10 h.2
  have hp : 0 < plen ns := by omega
  have e : i.toNat < n.toNat := by have := h.1; omega
  simp only [numL, idxL]
  rw [zm24, zz9 h.2, Nat.mul_comm, Nat.mul_add_div hp, Nat.div_eq_of_lt q, Nat.add_zero, Nat.mod_eq_of_lt e]
  congr 1
  have := h.1; omega
theorem zp11 : ∀ (xs : List Int) (k : Nat), (∀ n ∈ xs, 1 ≤ n) → InX xs (idxL xs k)
 | [], _, _ => trivial
 | n :: ns, k, h => by
  have h1 := h n (by simp)
  have hm : k / plen ns % n.toNat < n.toNat := Nat.mod_lt _ (by omega)
  exact ⟨⟨by omega, by omega⟩, zp11 ns k (fun m hm => h m (by simp [hm]))⟩
theorem zy6 : ∀ (xs : List Int) (k : Nat), (∀ n ∈ xs, 1 ≤ n) → k < plen xs → numL xs (idxL xs k) = k
 | [], k, _, hk => by simp [plen] at hk; simp [numL, hk]
 | n :: ns, k, h, hk => by
  have hp := zp4 ns (fun m hm => h m (by simp [hm]))
  simp only [plen] at hk
  have hd : k / plen ns < n.toNat := (Nat.div_lt_iff_lt_mul (by omega)).2 hk
  have e := zc6 ns 1 k
  rw [Nat.one_mul] at e
  have r := zy6 ns (k % plen ns) (fun m hm => h m (by simp [hm])) (Nat.mod_lt _ (by omega))
  rw [e] at r
  simp only [idxL, numL]
  rw [r, Int.toNat_natCast, Nat.mod_eq_of_lt hd, Nat.mul_comm]
  exact Nat.div_add_mod k (plen ns)
theorem zo4 : ∀ (xs : List Int) (n : Int), plen (xs ++ [n]) = plen xs * n.toNat
 | [], n => by simp [plen]
 | x :: xs, n => by simp only [List.cons_append, plen, zo4 xs n, Nat.mul_assoc]
theorem zq15 : ∀ (xs : List Int) (n : Int) (p i : Nat), i < n.toNat → idxL (xs ++ [n]) (p * n.toNat + i) = idxL xs p ++ [(i : Int)]
 | [], n, p, i, hi => by
  simp only [List.nil_append, idxL, plen, Nat.div_one]
  rw [Nat.mul_comm, Nat.mul_add_mod, Nat.mod_eq_of_lt hi]
 | x :: xs, n, p, i, hi => by
  simp only [List.cons_append, idxL]
  rw [zq15 xs n p i hi, zo4, Nat.mul_comm (plen xs), ← Nat.div_div_eq_div_mul]
  rw [show (p * n.toNat + i) / n.toNat = p by rw [Nat.mul_comm, Nat.mul_add_div (by omega), Nat.div_eq_of_lt hi, Nat.add_zero]]
theorem zu15 : ∀ (ss js : List Int) (s i : Int), ss.length = js.length → dotL (ss ++ [s]) (js ++ [i]) = dotL ss js + i * s
 | [], [], s, i, _ => by simp [dotL]
 | a :: ss, b :: js, s, i, h => by
  simp only [List.cons_append, dotL]
  rw [zu15 ss js s i (by simpa using h)]
  omega
 | [], _ :: _, _, _, h => by simp at h
 | _ :: _, [], _, _, h => by simp at h
theorem zd20 : ∀ (ax : Nat) (ss js : List Int) (i : Int), ax < ss.length → ss.length = js.length + 1 → dotL ss (js.insertIdx ax i) = dotL (ss.eraseIdx ax) js + i * ss.getD ax 0
 | 0, s :: ss, js, i, _, _ => by simp [dotL]; omega
 | ax + 1, s :: ss, j :: js, i, h1, h2 => by
  simp only [List.insertIdx_succ_cons, List.eraseIdx_cons_succ, dotL, List.getD_cons_succ]
  rw [zd20 ax ss js i (by simpa using h1) (by simpa using h2)]
  omega
 | ax + 1, s :: ss, [], i, h1, h2 => by simp at h1 h2; subst h2; simp at h1
 | 0, [], _, _, h, _ => by simp at h
 | _ + 1, [], _, _, h, _ => by simp at h
theorem InX.ins : ∀ {ax : Nat} {xs js : List Int} {i : Int}, ax < xs.length → InX (xs.eraseIdx ax) js → 0 ≤ i → i < xs.getD ax 0 → InX xs (js.insertIdx ax i)
 | 0, x :: xs, js, i, _, h, h1, h2 => ⟨⟨h1, h2⟩, h⟩
 | ax + 1, x :: xs, [], i, hl, h, h1, h2 => absurd h (by simp [InX])
 | ax + 1, x :: xs, j :: js, i, hl, h, h1, h2 => ⟨h.1, InX.ins (by simpa using hl) h.2 h1 h2⟩
 | 0, [], _, _, h, _, _, _ => by simp at h
 | _ + 1, [], _, _, h, _, _, _ => by simp at h
theorem InX.ers : ∀ {ax : Nat} {xs is : List Int}, ax < xs.length → InX xs is → InX (xs.eraseIdx ax) (is.eraseIdx ax) ∧ 0 ≤ is.getD ax 0 ∧ is.getD ax 0 < xs.getD ax 0 ∧ (is.eraseIdx ax).insertIdx ax (is.getD ax 0) = is
 | 0, x :: xs, i :: is, _, h => ⟨h.2, h.1.1, h.1.2, rfl⟩
 | ax + 1, x :: xs, i :: is, hl, h => by
  obtain ⟨q1, q2, q3, q4⟩ := InX.ers (ax := ax) (by simpa using hl) h.2
  exact ⟨⟨h.1, q1⟩, q2, q3, by simp only [List.eraseIdx_cons_succ, List.insertIdx_succ_cons, List.getD_cons_succ]; rw [q4]⟩
 | _, [], _, h, _ => by simp at h
 | _, _ :: _, [], _, h => absurd h (by simp [InX])
theorem zr19 : ∀ (ax : Nat) (js : List Int) (i j : Int), ax ≤ js.length → (js.insertIdx ax i).set ax j = js.insertIdx ax j
 | 0, js, i, j, _ => by simp
 | ax + 1, [], i, j, h => by simp at h
 | ax + 1, x :: js, i, j, h => by
  simp only [List.insertIdx_succ_cons, List.set_cons_succ]
  rw [zr19 ax js i j (by simpa using h)]
theorem zy9 : ∀ (ax : Nat) (js : List Int) (i : Int), ax ≤ js.length → (js.insertIdx ax i).getD ax 0 = i
 | 0, js, i, _ => by simp
 | ax + 1, [], i, h => by simp at h
 | ax + 1, x :: js, i, h => by
  simp only [List.insertIdx_succ_cons, List.getD_cons_succ]
  exact zy9 ax js i (by simpa using h)
theorem zt2 : ∀ (ax : Nat) (xs : List Int), ax < xs.length → plen xs = plen (xs.eraseIdx ax) * (xs.getD ax 0).toNat
 | 0, x :: xs, _ => by simp [plen, Nat.mul_comm]
 | ax + 1, x :: xs, h => by
  simp only [plen, List.eraseIdx_cons_succ, List.getD_cons_succ]
  rw [zt2 ax xs (by simpa using h), Nat.mul_assoc]
 | _, [], h => by simp at h
def kap (ax : Nat) (xs : List Int) (p i : Nat) : Nat := numL xs ((idxL (xs.eraseIdx ax) p).insertIdx ax (i : Int))
theorem zt9 {ax : Nat} {xs : List Int} (h : ∀ n ∈ xs, 1 ≤ n) : ∀ n ∈ xs.eraseIdx ax, 1 ≤ n := fun n hn => h n (List.mem_of_mem_eraseIdx hn)
theorem zv22 {ax : Nat} {xs : List Int} (h : ∀ n ∈ xs, 1 ≤ n) (ha : ax < xs.length) (p : Nat) {i : Nat} (hi : i < (xs.getD ax 0).toNat) : InX xs ((idxL (xs.eraseIdx ax) p).insertIdx ax (i : Int)) :=
 InX.ins ha (zp11 _ p (zt9 h)) (by omega) (by omega)
theorem zi7 {ax : Nat} {xs : List Int} (h : ∀ n ∈ xs, 1 ≤ n) (ha : ax < xs.length) (p : Nat) {i : Nat} (hi : i < (xs.getD ax 0).toNat) : idxL xs (kap ax xs p i) = (idxL (xs.eraseIdx ax) p).insertIdx ax (i : Int) := zz9 (zv22 h ha p hi)
theorem zu22 {ax : Nat} {xs : List Int} (h : ∀ n ∈ xs, 1 ≤ n) (ha : ax < xs.length) (p : Nat) {i : Nat} (hi : i < (xs.getD ax 0).toNat) : kap ax xs p i < plen xs := zw10 (zv22 h ha p hi)
theorem zn5 {ax : Nat} {xs : List Int} (ha : ax < xs.length) : (xs.eraseIdx ax).length + 1 = xs.length := by rw [List.length_eraseIdx_of_lt ha]; omega
theorem zq26 {ax : Nat} {xs sv : List Int} (off : Int) (h : ∀ n ∈ xs, 1 ≤ n) (ha : ax < xs.length) (hl : sv.length = xs.length) {p i : Nat} (hp : p < plen (xs.eraseIdx ax)) (hi : i < (xs.getD ax 0).toNat) :
  (places (xs.eraseIdx ax ++ [xs.getD ax 0]) (sv.eraseIdx ax ++ [sv.getD ax 0]) off)[p * (xs.getD ax 0).toNat + i]? = (places xs sv off)[kap ax xs p i]? := by
 have e1 := zn5 ha
 have e2 := zn5 (ax := ax) (xs := sv) (by omega)
 have hle : (p + 1) * (xs.getD ax 0).toNat ≤ plen (xs.eraseIdx ax) * (xs.getD ax 0).toNat := Nat.mul_le_mul_right _ hp
 rw [Nat.add_mul, Nat.one_mul] at hle
 have h' : ∀ n ∈ xs.eraseIdx ax ++ [xs.getD ax 0], 1 ≤ n := fun n hn => by
  rcases List.mem_append.1 hn with q | q
  ·exact zt9 h n q
  ·simp only [List.mem_singleton] at q; omega
 rw [zu6 _ _ off _ (by simp; omega) h' (by rw [zo4]; omega), zq15 _ _ _ _ hi, zu15 _ _ _ _ (by rw [zc2]; omega)]
 rw [zu6 xs sv off _ hl.symm h (zu22 h ha p hi), zi7 h ha p hi, zd20 _ _ _ _ (by omega) (by rw [zc2]; omega)]
theorem zj24 {ax : Nat} {xs : List Int} (h : ∀ n ∈ xs, 1 ≤ n) (ha : ax < xs.length) {q : Nat} (hq : q < plen xs) :
  ∃ p i, p < plen (xs.eraseIdx ax) ∧ i < (xs.getD ax 0).toNat ∧ kap ax xs p i = q ∧ (idxL xs q).getD ax 0 = (i : Int) := by
 obtain ⟨q1, q2, q3, q4⟩ := InX.ers ha (zp11 xs q h)
 refine ⟨numL (xs.eraseIdx ax) ((idxL xs q).eraseIdx ax), ((idxL xs q).getD ax 0).toNat, zw10 q1, by omega, ?_, by omega⟩
 unfold kap
 rw [zz9 q1, Int.toNat_of_nonneg q2, q4, zy6 xs q h hq]
theorem zw21 {ax : Nat} {xs : List Int} (h : ∀ n ∈ xs, 1 ≤ n) (ha : ax < xs.length) (p : Nat) {i : Nat} (hi : i < (xs.getD ax 0).toNat) (j : Nat) : numL xs ((idxL xs (kap ax xs p i)).set ax (j : Int)) = kap ax xs p j := by
 have e1 := zn5 ha
 rw [zi7 h ha p hi, zr19 _ _ _ _ (by rw [zc2]; omega)]
 rfl
theorem zp26 {ax : Nat} {xs : List Int} (h : ∀ n ∈ xs, 1 ≤ n) (ha : ax < xs.length) (p : Nat) {i : Nat} (hi : i < (xs.getD ax 0).toNat) : (idxL xs (kap ax xs p i)).getD ax 0 = (i : Int) := by
 have e1 := zn5 ha
 rw [zi7 h ha p hi, zy9 _ _ _ (by rw [zc2]; omega)]
theorem zw22 {xs : List Int} (h : ∀ n ∈ xs, 1 ≤ n) (h4 : xs.length ≤ 4) (k : Nat) : ixL xs k xs.length = idxL xs k := by
 have key : ∀ a : Int, 1 ≤ a → ∃ n : Nat, a = (n : Int) := fun a ha => ⟨a.toNat, by omega⟩
 match xs, h4 with
 | [], _ => rfl
 | [a], _ =>
  obtain ⟨a, rfl⟩ := key a (h _ (by simp))
  simp [ixL, kqL, idxL, plen]
 | [a, b], _ =>
  obtain ⟨a, rfl⟩ := key a (h _ (by simp))
  obtain ⟨b, rfl⟩ := key b (h _ (by simp))
  simp [ixL, kqL, idxL, plen]
 | [a, b, c], _ =>
  obtain ⟨a, rfl⟩ := key a (h _ (by simp))
  obtain ⟨b, rfl⟩ := key b (h _ (by simp))
  obtain ⟨c, rfl⟩ := key c (h _ (by simp))
  have e1 : k / (b * c) = k / c / b := by rw [Nat.mul_comm, Nat.div_div_eq_div_mul]
  simp [ixL, kqL, idxL, plen, e1]
 | [a, b, c, d], _ =>
  obtain ⟨a, rfl⟩ := key a (h _ (by simp))
  obtain ⟨b, rfl⟩ := key b (h _ (by simp))
  obtain ⟨c, rfl⟩ := key c (h _ (by simp))
  obtain ⟨d, rfl⟩ := key d (h _ (by simp))
  have e1 : k / (c * d) = k / d / c := by rw [Nat.mul_comm, Nat.div_div_eq_div_mul]
  have e2 : k / (b * (c * d)) = k / d / c / b := by rw [Nat.mul_comm, ← Nat.div_div_eq_div_mul, e1]
  simp [ixL, kqL, idxL, plen, e1, e2]
 | _ :: _ :: _ :: _ :: _ :: _, h4 => simp at h4
theorem zg26 {xs is : List Int} (h : InX xs is) (h4 : xs.length ≤ 4) : nuL xs is xs.length = (numL xs is : Nat) := by
 have key : ∀ a b : Int, 0 ≤ a ∧ a < b → ∃ n m : Nat, a = (n : Int) ∧ b = (m : Int) := fun a b h => ⟨a.toNat, b.toNat, by omega, by omega⟩
 match xs, is, h, h4 with
 | [], [], _, _ => rfl
 | [a], [i], h, _ =>
  obtain ⟨i, a, rfl, rfl⟩ := key _ _ h.1
  simp [nuL, numL, plen]
 | [a, b], [i, j], h, _ =>
  obtain ⟨i, a, rfl, rfl⟩ := key _ _ h.1
  obtain ⟨j, b, rfl, rfl⟩ := key _ _ h.2.1
  simp [nuL, numL, plen]
 | [a, b, c], [i, j, k], h, _ =>
  obtain ⟨i, a, rfl, rfl⟩ := key _ _ h.1
  obtain ⟨j, b, rfl, rfl⟩ := key _ _ h.2.1
  obtain ⟨k, c, rfl, rfl⟩ := key _ _ h.2.2.1
  simp [nuL, numL, plen]
  grind
 | [a, b, c, d], [i, j, k, l], h, _ =>
  obtain ⟨i, a, rfl, rfl⟩ := key _ _ h.1
  obtain ⟨j, b, rfl, rfl⟩ := key _ _ h.2.1
  obtain ⟨k, c, rfl, rfl⟩ := key _ _ h.2.2.1
  obtain ⟨l, d, rfl, rfl⟩ := key _ _ h.2.2.2.1
  simp [nuL, numL, plen]
  grind
 | _ :: _ :: _ :: _ :: _ :: _, _, _, h4 => simp at h4
end
section
open Go.ChangeShapes Go.RowKit FL
theorem zp5 (p : Nat → Bool) : ∀ n, cnt p n = (List.range n).countP p
 | 0 => rfl
 | n + 1 => by
  rw [cnt, zp5 p n, List.range_succ, List.countP_append, List.countP_singleton]
theorem zr7 {p q : Nat → Bool} : ∀ n, (∀ j, j < n → p j = q j) → cnt p n = cnt q n
 | 0, _ => rfl
 | n + 1, h => by rw [cnt, cnt, zr7 n (fun j hj => h j (by omega)), h n (by omega)]
theorem zm18 {n : Nat} {r : Nat → Nat} (h : Prm 0 n r) : ((List.range n).map r).Perm (List.range n) := by
 rw [List.perm_ext_iff_of_nodup]
 ·intro a
  rw [List.mem_map, List.mem_range]
  constructor
  ·rintro ⟨i, hi, rfl⟩
   exact (h.inn i (Nat.zero_le _) (List.mem_range.1 hi)).2
  ·intro ha
   obtain ⟨i, hi⟩ := h.sur a
   refine ⟨i, List.mem_range.2 ?_, hi⟩
   rcases Nat.lt_or_ge i n with z | z
   ·exact z
   ·have := h.out i (Or.inr z); omega
 ·have := List.nodup_range (n := n)
  exact List.Pairwise.map r (fun a b (q : a ≠ b) e => q (h.inj a b e)) this
 ·exact List.nodup_range
theorem zx24 {n : Nat} {r : Nat → Nat} (h : Prm 0 n r) (P : Nat → Bool) : cnt (fun j => P (r j)) n = cnt P n := by
 rw [zp5, zp5, ← (zm18 h).countP_eq P, List.countP_map]
 rfl
theorem zh12 (q : Nat) : ∀ n, cnt (fun j => decide (j < q)) n = min q n
 | 0 => by simp [cnt]
 | n + 1 => by
  rw [cnt, zh12 q n]
  by_cases z : n < q
  ·simp [z]; omega
  ·simp [z]; omega
theorem zh25 (f : Nat → C3) (dt : Int) (j i : Nat) : blt f dt j i = true ↔ lts (befC dt) (tag f j) (tag f i) := by
 unfold blt lts tag
 simp only [Bool.or_eq_true, Bool.and_eq_true, decide_eq_true_eq, Bool.not_eq_true']
 constructor
 ·rintro (h | ⟨h1, h2⟩)
  ·exact Or.inl h
  ·exact Or.inr ⟨h2, h1⟩
 ·rintro (h | ⟨h1, h2⟩)
  ·exact Or.inl h
  ·exact Or.inr ⟨h2, h1⟩
theorem zb26 {f : Nat → C3} {dt : Int} {n : Nat} {r : Nat → Nat} (hs : ∀ i, i < n → OkC dt (f i)) (p : Prm 0 n r) (h : Srt (befC dt) 0 n (fun i => tag f (r i))) {q : Nat} (hq : q < n) : rkN f dt n (r q) = q := by
 unfold rkN
 rw [← zx24 p (fun j => blt f dt j (r q))]
 have hr : ∀ i, i < n → r i < n := fun i hi => (p.inn i (Nat.zero_le _) hi).2
 have e : cnt (fun j => blt f dt (r j) (r q)) n = cnt (fun j => decide (j < q)) n := zr7 n fun j hj => by
  rw [Bool.eq_iff_iff, zh25, decide_eq_true_eq]
  constructor
  ·intro k
   rcases Nat.lt_trichotomy j q with z | z | z
   ·exact z
   ·subst z
    exact absurd k ((ze9 dt).asymm (hs _ (hr j hj)) (hs _ (hr j hj)) k)
   ·exact absurd k ((ze9 dt).asymm (hs _ (hr q hq)) (hs _ (hr j hj)) (h q j (Nat.zero_le _) z hj))
  ·intro z
   exact h j q (Nat.zero_le _) z hq
 rw [e, zh12]
 omega
theorem zs22 {f : Nat → C3} {dt : Int} {n : Nat} {r : Nat → Nat} (hs : ∀ i, i < n → OkC dt (f i)) (p : Prm 0 n r) (h : Srt (befC dt) 0 n (fun i => tag f (r i))) : ∀ i, i ≤ n → ∀ q, q < n → r q < i → (ordL f dt n i).getD q 0 = (r q : Int)
 | 0, _, q, _, z => absurd z (by omega)
 | i + 1, hi, q, hq, z => by
  rw [ordL]
  obtain ⟨s, hs'⟩ := p.sur i
  have hsn : s < n := by
   rcases Nat.lt_or_ge s n with y | y
   ·exact y
   ·have := p.out s (Or.inr y); omega
  have hrk : rkN f dt n i = s := by rw [← hs']; exact zb26 hs p h hsn
  rw [hrk]
  by_cases e : s = q
  ·subst e
   rw [List.getD_eq_getElem?_getD, List.getElem?_set_self (by rw [zb6]; exact hsn), hs']
   rfl
  ·rw [List.getD_eq_getElem?_getD, List.getElem?_set_ne e, ← List.getD_eq_getElem?_getD]
   refine zs22 hs p h i (by omega) q hq ?_
   have : r q ≠ i := fun y => e (p.inj s q (by rw [hs', y]))
   omega
theorem zt16 {f : Nat → C3} {dt : Int} {n : Nat} {r : Nat → Nat} (hs : ∀ i, i < n → OkC dt (f i)) (p : Prm 0 n r) (h : Srt (befC dt) 0 n (fun i => tag f (r i))) (q : Nat) (hq : q < n) : (ordL f dt n n).getD q 0 = (r q : Int) :=
 zs22 hs p h n (Nat.le_refl _) q hq (p.inn q (Nat.zero_le _) hq).2
theorem InX.put : ∀ {ax : Nat} {xs is : List Int} {i : Int}, InX xs is → 0 ≤ i → i < xs.getD ax 0 → InX xs (is.set ax i)
 | 0, x :: xs, y :: is, i, h, h1, h2 => ⟨⟨h1, h2⟩, h.2⟩
 | ax + 1, x :: xs, y :: is, i, h, h1, h2 => ⟨h.1, InX.put h.2 h1 h2⟩
 | _, [], [], _, h, _, _ => trivial
def atN (xs : List Int) (ax q i : Nat) : Nat := numL xs ((idxL xs q).set ax (i : Int))
theorem zl25 {xs : List Int} (h : ∀ n ∈ xs, 1 ≤ n) {ax i : Nat} (hi : i < (xs.getD ax 0).toNat) (q : Nat) : InX xs ((idxL xs q).set ax (i : Int)) := (zp11 xs q h).put (by omega) (by omega)
theorem zw26 {xs : List Int} (h : ∀ n ∈ xs, 1 ≤ n) {ax i : Nat} (hi : i < (xs.getD ax 0).toNat) (q : Nat) : atN xs ax q i < plen xs := zw10 (zl25 h hi q)
theorem zb23 {xs : List Int} (h : ∀ n ∈ xs, 1 ≤ n) {ax i : Nat} (hi : i < (xs.getD ax 0).toNat) (q : Nat) : idxL xs (atN xs ax q i) = (idxL xs q).set ax (i : Int) := zz9 (zl25 h hi q)
theorem zy26 {xs : List Int} (h : ∀ n ∈ xs, 1 ≤ n) {ax i : Nat} (hi : i < (xs.getD ax 0).toNat) (q j : Nat) : atN xs ax (atN xs ax q i) j = atN xs ax q j := by
 show numL xs ((idxL xs (atN xs ax q i)).set ax (j : Int)) = _
 rw [zb23 h hi, List.set_set]
 rfl
theorem zx26 {xs : List Int} (h : ∀ n ∈ xs, 1 ≤ n) {ax i : Nat} (ha : ax < xs.length) (hi : i < (xs.getD ax 0).toNat) (q : Nat) : (idxL xs (atN xs ax q i)).getD ax 0 = (i : Int) := by
 rw [zb23 h hi, List.getD_eq_getElem?_getD, List.getElem?_set_self (by rw [zc2]; exact ha)]
 rfl
theorem zz21 {xs : List Int} (h : ∀ n ∈ xs, 1 ≤ n) {ax : Nat} (ha : ax < xs.length) (q : Nat) : 0 ≤ (idxL xs q).getD ax 0 ∧ ((idxL xs q).getD ax 0).toNat < (xs.getD ax 0).toNat := by
 obtain ⟨_, q2, q3, _⟩ := InX.ers ha (zp11 xs q h)
 exact ⟨q2, by omega⟩
theorem zj9 : ∀ (l : List Int) (a : Nat), l.set a (l.getD a 0) = l
 | [], a => by simp
 | x :: l, 0 => by simp
 | x :: l, a + 1 => by simp only [List.set_cons_succ, List.getD_cons_succ]; rw [zj9 l a]
theorem zl20 {xs : List Int} (h : ∀ n ∈ xs, 1 ≤ n) {ax : Nat} (ha : ax < xs.length) {q : Nat} (hq : q < plen xs) : atN xs ax q ((idxL xs q).getD ax 0).toNat = q := by
 unfold atN
 rw [Int.toNat_of_nonneg (zz21 h ha q).1, zj9, zy6 xs q h hq]
theorem zm25 {xs : List Int} (h : ∀ n ∈ xs, 1 ≤ n) {ax : Nat} (ha : ax < xs.length) {q : Nat} (hq : q < plen xs) : q = atN xs ax (atN xs ax q 0) ((idxL xs q).getD ax 0).toNat := by
 have b := zz21 h ha q
 rw [zy26 h (by omega), zl20 h ha hq]
theorem zk24 {ax : Nat} {xs : List Int} (h : ∀ n ∈ xs, 1 ≤ n) (ha : ax < xs.length) (p : Nat) {i : Nat} (hi : i < (xs.getD ax 0).toNat) (j : Nat) : atN xs ax (kap ax xs p i) j = kap ax xs p j := zw21 h ha p hi j
theorem zw6 {f g : Nat → C3} {dt : Int} {n : Nat} (h : ∀ i j, i < n → j < n → befC dt (f i) (f j) = befC dt (g i) (g j)) : ∀ m, m ≤ n → ordL f dt n m = ordL g dt n m
 | 0, _ => rfl
 | m + 1, hm => by
  rw [ordL, ordL, zw6 h m (by omega)]
  have e : rkN f dt n m = rkN g dt n m := zr7 n fun j hj => by
   unfold blt
   rw [h j m hj (by omega), h m j (by omega) hj]
  rw [e]
def putC (cs : List C3) (L : List Int) (X : List C3) : Nat → List C3
 | 0 => cs
 | j + 1 => (putC cs L X j).set (L.getD j 0).toNat (X.getD j k0)
theorem zm1 (cs : List C3) (L : List Int) (X : List C3) (j : Nat) : (putC cs L X j).length = cs.length := by
 induction j with
 | zero => rfl
 | succ j ih => rw [putC, List.length_set, ih]
theorem zh5 (cs : List C3) {L L' : List Int} {X X' : List C3} : ∀ {j : Nat}, (∀ i, i < j → L.getD i 0 = L'.getD i 0) → (∀ i, i < j → X.getD i k0 = X'.getD i k0) → putC cs L X j = putC cs L' X' j
 | 0, _, _ => rfl
 | j + 1, h, k => by rw [putC, putC, zh5 cs (fun i hi => h i (by omega)) (fun i hi => k i (by omega)), h j (by omega), k j (by omega)]
theorem zs6 (cs : List C3) (L : List Int) (X : List C3) (p : Nat) : ∀ n, (∀ j, j < n → (L.getD j 0).toNat ≠ p) → (putC cs L X n).getD p k0 = cs.getD p k0
 | 0, _ => rfl
 | n + 1, h => by
  rw [putC, zq2, if_neg (fun q => h n (by omega) q.1), zs6 cs L X p n (fun j hj => h j (by omega))]
theorem zo9 (cs : List C3) (L : List Int) (X : List C3) : ∀ n, (∀ i j, i < n → j < n → (L.getD i 0).toNat = (L.getD j 0).toNat → X.getD i k0 = X.getD j k0) → ∀ j, j < n → (L.getD j 0).toNat < cs.length → (putC cs L X n).getD (L.getD j 0).toNat k0 = X.getD j k0
 | 0, _, j, hj, _ => absurd hj (by omega)
 | n + 1, h, j, hj, hc => by
  rw [putC, zq2, zm1]
  by_cases e : (L.getD n 0).toNat = (L.getD j 0).toNat
  ·rw [if_pos ⟨e, hc⟩]
   exact h n j (by omega) hj e
  ·rw [if_neg (fun q => e q.1)]
   have : j ≠ n := fun z => e (by rw [z])
   exact zo9 cs L X n (fun i j hi hj => h i j (by omega) (by omega)) j (by omega) hc
theorem zo15 {a b : List C3} (hl : a.length = b.length) (h : ∀ i, i < a.length → a.getD i k0 = b.getD i k0) : a = b := by
 apply List.ext_getElem hl
 intro i h1 h2
 have := h i h1
 rw [List.getD_eq_getElem?_getD, List.getD_eq_getElem?_getD, List.getElem?_eq_getElem h1, List.getElem?_eq_getElem h2] at this
 exact this
theorem zp16 (cs : List C3) {L M : List Int} {X Z : List C3} {n : Nat} (κ : Nat → Nat) (hk : ∀ j, j < n → κ j < n) (hs : ∀ q, q < n → ∃ j, j < n ∧ κ j = q) (hM : ∀ j, j < n → M.getD j 0 = L.getD (κ j) 0) (hZ : ∀ j, j < n → Z.getD j k0 = X.getD (κ j) k0)
  (hL : ∀ i j, i < n → j < n → (L.getD i 0).toNat = (L.getD j 0).toNat → i = j) : putC cs M Z n = putC cs L X n := by
 apply zo15 (by rw [zm1, zm1])
 intro p hp
 rw [zm1] at hp
 have h1 : ∀ i j, i < n → j < n → (L.getD i 0).toNat = (L.getD j 0).toNat → X.getD i k0 = X.getD j k0 := fun i j hi hj e => by rw [hL i j hi hj e]
 have h2 : ∀ i j, i < n → j < n → (M.getD i 0).toNat = (M.getD j 0).toNat → Z.getD i k0 = Z.getD j k0 := fun i j hi hj e => by
  rw [hM i hi, hM j hj] at e
  rw [hZ i hi, hZ j hj, hL _ _ (hk i hi) (hk j hj) e]
 by_cases h : ∃ q, q < n ∧ (L.getD q 0).toNat = p
 ·obtain ⟨q, hq, e⟩ := h
  obtain ⟨j, hj, ej⟩ := hs q hq
  have e2 : (M.getD j 0).toNat = p := by rw [hM j hj, ej, e]
  have a := zo9 cs M Z n h2 j hj (by rw [e2]; exact hp)
  have b := zo9 cs L X n h1 q hq (by rw [e]; exact hp)
  rw [e2] at a
  rw [e] at b
  rw [a, b, hZ j hj, ej]
 ·have n1 : ∀ j, j < n → (L.getD j 0).toNat ≠ p := fun j hj e => h ⟨j, hj, e⟩
  have n2 : ∀ j, j < n → (M.getD j 0).toNat ≠ p := fun j hj e => n1 (κ j) (hk j hj) (by rw [← hM j hj]; exact e)
  rw [zs6 _ _ _ _ _ n1, zs6 _ _ _ _ _ n2]
def putT (ss : List St) (m : Nat) (L : List Int) (X : List C3) (j : Nat) : List St := ss.set m ((ss.getD m s0).1, putC (ss.getD m s0).2 L X j)
theorem zo (ss : List St) (m : Nat) (L : List Int) (X : List C3) (j : Nat) : (putT ss m L X j).length = ss.length := by simp [putT]
theorem zc1 (ss : List St) (m : Nat) (L : List Int) (X : List C3) (j i : Nat) : ((putT ss m L X j).getD i s0).1 = (ss.getD i s0).1 ∧ ((putT ss m L X j).getD i s0).2.length = (ss.getD i s0).2.length ∧ (i ≠ m → (putT ss m L X j).getD i s0 = ss.getD i s0) := by
 unfold putT
 rw [zq2]
 by_cases h : m = i ∧ i < ss.length
 ·rw [if_pos h, ← h.1]
  exact ⟨rfl, zm1 .., fun q => absurd rfl q⟩
 ·rw [if_neg h]
  exact ⟨rfl, rfl, fun _ => rfl⟩
theorem zr6 (ss : List St) (m : Nat) (L : List Int) (X : List C3) (hm : m < ss.length) : putT ss m L X 0 = ss := by
 unfold putT
 show ss.set m ((ss.getD m s0).1, (ss.getD m s0).2) = ss
 rw [List.getD_eq_getElem?_getD, List.getElem?_eq_getElem hm]
 exact List.set_getElem_self hm
theorem zo16 (ss : List St) (m : Nat) {L L' : List Int} {X X' : List C3} {j : Nat} (h : ∀ i, i < j → L.getD i 0 = L'.getD i 0) (k : ∀ i, i < j → X.getD i k0 = X'.getD i k0) : putT ss m L X j = putT ss m L' X' j := by
 unfold putT; rw [zh5 _ h k]
def laneC (x : List C3) (xs : List Int) (ax q : Nat) : Nat → C3 := fun i => x.getD (atN xs ax q i) k0
def ordQ (dt : Int) (x : List C3) (xs : List Int) (ax q : Nat) : Int := (ordL (laneC x xs ax q) dt (xs.getD ax 0).toNat (xs.getD ax 0).toNat).getD ((idxL xs q).getD ax 0).toNat 0
def srtQ (dt : Int) (x : List C3) (xs : List Int) (ax q : Nat) : C3 := laneC x xs ax q (ordQ dt x xs ax q).toNat
theorem zd24 {xs : List Int} (h : ∀ n ∈ xs, 1 ≤ n) (x : List C3) {ax i : Nat} (hi : i < (xs.getD ax 0).toNat) (q : Nat) : laneC x xs ax (atN xs ax q i) = laneC x xs ax q := by
 funext j
 unfold laneC
 rw [zy26 h hi]
theorem zs23 {xs : List Int} (h : ∀ n ∈ xs, 1 ≤ n) (dt : Int) (x : List C3) {ax i : Nat} (ha : ax < xs.length) (hi : i < (xs.getD ax 0).toNat) (q : Nat) : ordQ dt x xs ax (atN xs ax q i) = (ordL (laneC x xs ax q) dt (xs.getD ax 0).toNat (xs.getD ax 0).toNat).getD i 0 := by
 unfold ordQ
 rw [zd24 h x hi, zx26 h ha hi, Int.toNat_natCast]
end
end Go.Proofs.YtfhcpicddegblaaGreat
