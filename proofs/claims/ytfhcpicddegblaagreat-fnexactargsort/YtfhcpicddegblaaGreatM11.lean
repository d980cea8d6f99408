import Derived.Test.YtfhcpicddegblaaGreatFsAy
import Derived.Test.YtfhcpicddegblaaGreatM4
import Derived.Test.YtfhcpicddegblaaGreatM10
import Derived.Test.YtfhcpicddegblaaGreatM7
import Derived.Test.YtfhcpicddegblaaGreatM5
import Derived.Test.YtfhcpicddegblaaGreatM9
set_option linter.unusedSimpArgs false
set_option linter.unusedVariables false
set_option maxRecDepth 100000
set_option maxHeartbeats 8000000
namespace Go.Proofs.YtfhcpicddegblaaGreat
open List renaming setIfInBounds_toArray → sT, set_cons_zero → sZ, set_cons_succ → sS
open Go.Value renaming int → O, slice → σ, pointer → π, agg → γ
open Go.IntKind renaming i64 → ι
open Go.Obj renaming cells → χ
open Go.Act renaming put → aP
section
open Go.RowKit Go.ChangeShapes
def mvL (k : Nat) (l : List Int) : List Int := l.eraseIdx k ++ [l.getD k 0]
theorem zf9 (w : World) (xs sv : List Int) (off : Int) (k : Nat) (hk : k < xs.length) (h4 : xs.length ≤ 4) (hl : sv.length = xs.length) :
  Calls Tryz.prog 83 #[γ (vw xs sv off), O ι k] w fun e w' => e = .returned (γ (vw (mvL k xs) (mvL k sv) off)) ∧ Ext w w' := by
 match xs, sv, hl, k, hk with
 | [a0], [s0], _, 0, _ => exact zz14 w a0 0 0 0 s0 0 0 0 off
 | [a0, a1], [s0, s1], _, 0, _ => exact zy14 w a0 a1 0 0 s0 s1 0 0 off
 | [a0, a1], [s0, s1], _, 1, _ => exact zx14 w a0 a1 0 0 s0 s1 0 0 off
 | [a0, a1, a2], [s0, s1, s2], _, 0, _ => exact zw14 w a0 a1 a2 0 s0 s1 s2 0 off
 | [a0, a1, a2], [s0, s1, s2], _, 1, _ => exact zv14 w a0 a1 a2 0 s0 s1 s2 0 off
 | [a0, a1, a2], [s0, s1, s2], _, 2, _ => exact zu14 w a0 a1 a2 0 s0 s1 s2 0 off
 | [a0, a1, a2, a3], [s0, s1, s2, s3], _, 0, _ => exact zt14 w a0 a1 a2 a3 s0 s1 s2 s3 off
 | [a0, a1, a2, a3], [s0, s1, s2, s3], _, 1, _ => exact zs14 w a0 a1 a2 a3 s0 s1 s2 s3 off
 | [a0, a1, a2, a3], [s0, s1, s2, s3], _, 2, _ => exact zr14 w a0 a1 a2 a3 s0 s1 s2 s3 off
 | [a0, a1, a2, a3], [s0, s1, s2, s3], _, 3, _ => exact zq14 w a0 a1 a2 a3 s0 s1 s2 s3 off
 | a0 :: a1 :: a2 :: a3 :: a4 :: xs, sv, _, k, _ => simp at h4
end
section
open Go.ChangeShapes Go.RowKit FL
def lnN (xs : List Int) (ax : Nat) (k : Int) (i : Nat) : Int := nuL xs ((ixL xs k xs.length).set ax i) xs.length
def lnV (xs : List Int) (ax : Nat) (k : Int) (m : Nat) : List Value := (List.range m).map fun i => O ι (lnN xs ax k i)
theorem zr21 (xs : List Int) (ax : Nat) (k : Int) (m : Nat) : lnV xs ax k (m + 1) = lnV xs ax k m ++ [O ι (lnN xs ax k m)] := by
 unfold lnV
 rw [List.range_succ, List.map_append]
 rfl
theorem zx22 {xs : List Int} {k : Int} (hk : 0 ≤ k ∧ k ≤ 4096) (hx : ∀ i, i < xs.length → 0 < xs.getD i 0 ∧ xs.getD i 0 ≤ 4096) : ∀ c, c ≤ xs.length → ∀ i, i < xs.length → 0 ≤ (ixL xs k c).getD i 0 ∧ (ixL xs k c).getD i 0 ≤ 4096
 | 0, _, i, hi => by
  rw [ixL, List.getD_eq_getElem?_getD, List.getElem?_replicate]
  split <;> simp
 | c + 1, hc, i, hi => by
  have q := zx22 hk hx c (by omega) i hi
  have p := hx (xs.length - 1 - c) (by omega)
  have r := zn19 hk (fun i hi => (hx i hi).1) c (by omega)
  rw [ixL, List.getD_eq_getElem?_getD]
  by_cases e : xs.length - 1 - c = i
  ·subst e
   rw [List.getElem?_set_self (by rw [zk7]; exact hi)]
   have m1 := Int.emod_nonneg (kqL xs k c) (b := xs.getD (xs.length - 1 - c) 0) (by omega)
   have m2 := Int.emod_lt_of_pos (kqL xs k c) p.1
   simp only [Option.getD_some]
   omega
  ·rw [List.getElem?_set_ne e, ← List.getD_eq_getElem?_getD]
   exact q
theorem zp18 {W : World} {base e size n b o : Nat} {v x : Value} {xs : List Value} (h : W.ownsRow base e size v n xs) (hne : v.ownBlock ≠ some b) : (W.setCell ⟨b, o, none⟩ x).ownsRow base e size v n xs := by
 refine ⟨h.1, ?_⟩
 rcases h.2 with h2 | ⟨g, cap, cur, rfl, q1, q2, q3⟩
 ·exact Or.inl h2
 ·refine Or.inr ⟨g, cap, cur, rfl, q1, (Below.heap_setCell _ _ _ _ (fun e => hne (congrArg some e))).trans q2, q3⟩
structure LnI (w : World) (IB : Nat) (xs IX : List Int) (ax : Nat) (k : Int) (c : Nat) (o : Value) (W : World) : Prop where
 own : W.ownsRow w.heap.size 2 1 o c (lnV xs ax k c)
 ne : o.ownBlock ≠ some IB
 row : ∃ j, Row W IB 0 (IX.set ax j)
 fz : ∀ q, W.frozen? ⟨IB, q, none⟩ = false
 lt : IB < W.heap.size
 lo : w.heap.size ≤ IB
 bl : Bel w W
theorem zu25 {IX : List Int} {ax n : Nat} {c : Int} (h : ∀ i, i < n → 0 ≤ IX.getD i 0 ∧ IX.getD i 0 ≤ 4096) (hc : 0 ≤ c ∧ c ≤ 4096) : ∀ i, i < n → 0 ≤ (IX.set ax c).getD i 0 ∧ (IX.set ax c).getD i 0 ≤ 4096 := fun i hi => by
 rw [List.getD_eq_getElem?_getD, List.getElem?_set]
 by_cases e : ax = i
 ·rw [if_pos e]
  split
  ·exact hc
  ·simp
 ·rw [if_neg e, ← List.getD_eq_getElem?_getD]
  exact h i hi
theorem zd17 {w : World} {b off cap ax K : Nat} {xs : List Int} (h : Row w b off xs) (hbw : b < w.heap.size) (hax : ax < xs.length) (k : Int) (hk : 0 ≤ k ∧ k ≤ 4096) (hx : ∀ i, i < xs.length → 0 < xs.getD i 0 ∧ xs.getD i 0 ≤ 4096) (hn : xs.length ≤ 4) (hK : xs.getD ax 0 = K) :
  Calls Tryz.prog 53 #[σ (some ⟨b, off, none⟩) xs.length cap, O ι ax, O ι k] w fun e w' => ∃ v, e = .returned v ∧ w'.ownsRow w.heap.size 2 1 v K (lnV xs ax k K) ∧ Bel w w' := by
 obtain ⟨i2, hi2, hx0, hx1, hx2⟩ := info_parts za22
 have hK4 : K ≤ 4096 := by have := hx ax hax; omega
 have XA : Ext w (w.alloc (χ #[] 2)) := (Ext.refl w).alloc _ _
 have O0 : Hid ((w.alloc (χ #[] 2)).ownsRow w.heap.size 2 1 (σ (some ⟨w.heap.size, 0, none⟩) 0 0) 0 (lnV xs ax k 0)) := World.ownsRow_made (base := w.heap.size) (e := 2) (size := 1) w #[] 0 (Nat.le_refl _) (by unfold maxLen; omega) (by simp)
 have hsA : (w.alloc (χ #[] 2)).heap.size = w.heap.size + 1 := by simp
 have HI := hide (zf7 (cap := cap) (h.ext XA) (by rw [hsA]; omega) k hk hx hn)
 have HX := hide XA
 have HBD := hide (zx22 hk hx xs.length (Nat.le_refl _))
 have HXX := hide hx
 have HR := hide h
 obtain ⟨n, Hn⟩ : ∃ n, Hid (xs.length = n) := ⟨_, rfl⟩
 rw [Hn.out] at HI hax HBD HXX hn ⊢
 obtain ⟨IX, HIX⟩ : ∃ IX, Hid (ixL xs k n = IX) := ⟨_, rfl⟩
 rw [HIX.out] at HI HBD
 have HIL : Hid (IX.length = n) := by show _ = _; rw [← HIX.out, zk7, Hn.out]
 have HKK := hide hK
 clear h hx hk XA hK
 go_enter Tryz.func53, Tryz.ntmps53
 go_wp2_with fail
 generalize w.alloc (χ #[] 2) = WA at HI HX O0 hsA ⊢
 refine HI.out.mono ?_
 rintro e w1 ⟨IB, rfl, hib, hib2, hri, x1⟩
 have HS0 : Hid (LnI w IB xs IX ax k 0 (σ (some ⟨w.heap.size, 0, none⟩) 0 0) w1) := by
  refine ⟨zk3 O0.out x1.bl, ?_, ⟨IX.getD ax 0, ?_⟩, fun q => x1.unfrozen hib q, hib2, by omega, (HX.out.trans x1).bl⟩
  ·intro e
   simp [Value.ownBlock] at e
   omega
  ·rw [zj9]; exact hri
 have hib3 : w.heap.size < IB := by omega
 clear hri x1 HI O0 hsA
 go_wp2_with fail
 go_loopw [7, 9] (fun o i wr => ∃ (c : Nat) (ov : Value), ov = o ∧ i = O ι c ∧ c ≤ K ∧ LnI w IB xs IX ax k c ov wr) (fun _ i _ => K - (intOf i).toNat)
 case atStart => exact ⟨0, _, rfl, rfl, by omega, HS0.out⟩
 case round =>
  obtain ⟨c, ov, rfl, rfl, hc, hI⟩ := hrel
  have qx := Bel.box hI.bl (HR.out ax (by rw [Hn.out]; exact hax))
  rw [HKK.out] at qx
  have a0 : (0 : Int) ≤ (ax : Int) := Int.natCast_nonneg _
  have a1 : (ax : Int) < (n : Int) := by omega
  have HIN := hide hI
  clear hI
  by_cases hlt : c < K
  ·have hd : decide ((c : Int) < (K : Int)) = true := decide_eq_true (by omega)
   obtain ⟨jj, hrow⟩ := HIN.out.row
   have q1 := hrow ax (by rw [List.length_set, HIL.out]; exact hax)
   rw [Nat.zero_add] at q1
   have qf := HIN.out.fz ax
   have HRS : Hid (Row (wr.setCell ⟨IB, ax, none⟩ (O ι c)) IB 0 (IX.set ax c)) := by
    have z := hrow.set (k := ax) (by rw [List.length_set, HIL.out]; exact hax) (c : Int)
    rw [Nat.zero_add, List.set_set] at z
    exact z
   have HOS : Hid ((wr.setCell ⟨IB, ax, none⟩ (O ι c)).ownsRow w.heap.size 2 1 ov c (lnV xs ax k c)) := zp18 HIN.out.own HIN.out.ne
   have HBS : Hid (Bel w (wr.setCell ⟨IB, ax, none⟩ (O ι c))) := HIN.out.bl.setCell (p := ⟨IB, ax, none⟩) HIN.out.lo _
   have HFS : Hid (∀ q, (wr.setCell ⟨IB, ax, none⟩ (O ι c)).frozen? ⟨IB, q, none⟩ = false) := fun q => by rw [World.frozen?_setCell]; exact HIN.out.fz q
   have HLS : Hid (IB < (wr.setCell ⟨IB, ax, none⟩ (O ι c)).heap.size) := by have := HIN.out.lt; show IB < _; simpa [World.setCell] using this
   generalize (IX.set ax jj).getD ax 0 = old at q1
   clear hrow
   go_wp2_with fail
   generalize wr.setCell ⟨IB, ax, none⟩ (O ι c) = W1 at HRS HOS HBS HFS HLS ⊢
   clear q1 qf qx
   have HNU := hide (zk11 (cap := cap) (cap2 := n) (xs := xs) (b := b) (off := off) (fun j hj => Bel.box HBS.out (HR.out j hj)) HRS.out (by rw [List.length_set, HIL.out, Hn.out]) (fun i hi => ⟨Int.le_of_lt (HXX.out i (by rw [← Hn.out]; exact hi)).1, (HXX.out i (by rw [← Hn.out]; exact hi)).2⟩) (fun i hi => zu25 HBD.out ⟨by omega, by omega⟩ i (by rw [← Hn.out]; exact hi)) (by rw [Hn.out]; exact hn))
   rw [List.length_set, HIL.out, Hn.out] at HNU
   have HLN : Hid (nuL xs (IX.set ax c) n = lnN xs ax k c) := by show _ = _; unfold lnN; rw [Hn.out, HIX.out]
   rw [HLN.out] at HNU
   refine HNU.out.mono ?_
   rintro e W2 ⟨rfl, x2⟩
   have HO2 := hide (zk3 HOS.out x2.bl)
   have HR2 := hide (HRS.out.ext x2)
   have HB2 := hide (Bel.tr HBS.out x2.bl)
   have HF2 : Hid (∀ q, W2.frozen? ⟨IB, q, none⟩ = false) := fun q => (x2.fz _).trans (HFS.out q)
   have HL2 : Hid (IB < W2.heap.size) := Nat.lt_of_lt_of_le HLS.out x2.bl.size
   have hlv := hide (zr21 xs ax k c)
   generalize lnN xs ax k c = vn at hlv ⊢
   clear x2 HNU HRS HOS HBS HFS HLS HLN
   go_wp2_with (at_builtin; (refine wpList_append_lies _ rfl _ _ 25 rfl w.heap.size 2 i2 (O ι 0) 1 8 Tryz.underlying25 hi2 hx0 hx1 hx2 rfl (by decide) ov c (lnV xs ax k c) rfl (HO2.out.alloc _) ⟨W2.heap.size, 0, none⟩ 1 1 [O ι vn] rfl rfl (fun j u hj => by rw [Addr.add_lit, Nat.zero_add, zd W2 _ 2 _ rfl j]; simpa using hj) (by simp [Value.oneCell']) (by omega) (by unfold maxLen; omega) (by omega) (by have := HB2.out.size; rw [World.size_alloc]; omega) (W2.heap.size + 1) (by simp) ?_); intro g5 cap5 w5 hown5 hgrow5 hat5 hlt5; have HO5 := hide hown5; have HG5 := hide hgrow5; have HA5 := hide hat5; clear hown5 hgrow5 hat5 hlt5)
   have HEND : Hid (LnI w IB xs IX ax k (c + 1) (σ (some ⟨g5, 0, none⟩) (c + 1) cap5) w5) := by
    have hle := HB2.out.size
    have hl2 := HL2.out
    have hov : ov.ownBlock ≠ some IB := HIN.out.ne
    have hb5 : w5.heap[IB]? = W2.heap[IB]? := by
     rw [HG5.out.block IB (by rw [World.size_alloc]; omega) (fun e => hov e.symm)]
     exact ((Below.refl W2.heap.size W2).alloc (Nat.le_refl _) _).block IB hl2
    refine ⟨?_, ?_, ⟨(c : Int), fun j hj => (World.cell?_of_block (w := W2) (a := ⟨IB, 0 + j, none⟩) hb5).trans (HR2.out j hj)⟩, fun q => (World.frozen?_of_block (w := W2) (a := ⟨IB, q, none⟩) hb5).trans (HF2.out q), ?_, by omega, ?_⟩
    ·rw [hlv.out]; exact HO5.out
    ·intro e
     simp only [Value.ownBlock] at e
     injection e with e
     rcases HA5.out with z | z
     ·exact hov (by rw [z, e])
     ·omega
    ·have := HG5.out.size
     rw [World.size_alloc] at this
     omega
    ·exact zv15 HB2.out (fun c hc => (HO2.out.lt c hc).1) HG5.out
   clear HO5 HG5 HA5 HO2 HR2 HB2 HF2 HL2
   go_wp2_with fail
   go_roundw
   ·exact ⟨c + 1, _, rfl, by go_num, by omega, HEND.out⟩
   ·simp [intOf]; omega
  ·have hcc : c = K := by omega
   subst hcc
   have hd : decide ((c : Int) < (c : Int)) = false := decide_eq_false (by omega)
   go_wp2
   go_ret
   exact ⟨_, rfl, HIN.out.own, HIN.out.bl⟩
theorem zz18 {ax : Nat} {l : List Int} (ha : ax < l.length) : ∀ n ∈ mvL ax l, n ∈ l := fun n hn => by
 unfold mvL at hn
 rcases List.mem_append.1 hn with q | q
 ·exact List.mem_of_mem_eraseIdx q
 ·rw [List.mem_singleton] at q
  rw [q, List.getD_eq_getElem?_getD, List.getElem?_eq_getElem ha]
  exact List.getElem_mem ha
theorem zr3 {ax : Nat} {l : List Int} (ha : ax < l.length) : (mvL ax l).length = l.length := by
 unfold mvL
 rw [List.length_append, List.length_singleton, zn5 ha]
theorem zk13 {ax : Nat} {xs : List Int} (ha : ax < xs.length) : plen (mvL ax xs) = plen xs := by
 unfold mvL
 rw [zo4, ← zt2 ax xs ha]
theorem zd2 {l : List Int} {P : Int → Prop} (h : ∀ n ∈ l, P n) : ∀ j, j < l.length → P (l.getD j 0) := fun j hj => by
 rw [List.getD_eq_getElem?_getD, List.getElem?_eq_getElem hj]
 exact h _ (List.getElem_mem hj)
theorem za19 {ax : Nat} {xs : List Int} (hg : Good xs) (ha : ax < xs.length) : Good (mvL ax xs) ∧ prod (mvL ax xs) = prod xs := by
 have h0 : ∀ n ∈ xs, 0 ≤ n := fun n hn => (zy hg n hn).1
 have h1 : ∀ n ∈ mvL ax xs, 0 ≤ n ∧ n ≤ 4096 := fun n hn => zy hg n (zz18 ha n hn)
 have e : prod (mvL ax xs) = prod xs := by rw [zw h0, zw (fun n hn => (h1 n hn).1), zk13 ha]
 exact ⟨⟨by rw [zr3 ha]; exact hg.1, fun j hj => zd2 h1 j hj, by rw [e]; exact hg.2.2⟩, e⟩
theorem zv13 : ∀ (ax : Nat) (js : List Int) (i : Int), ax ≤ js.length → (js.insertIdx ax i).eraseIdx ax = js
 | 0, js, i, _ => by simp
 | ax + 1, [], i, h => by simp at h
 | ax + 1, x :: js, i, h => by
  simp only [List.insertIdx_succ_cons, List.eraseIdx_cons_succ]
  rw [zv13 ax js i (by simpa using h)]
def kapJ (ax : Nat) (xs : List Int) (j : Nat) : Nat := kap ax xs (j / (xs.getD ax 0).toNat) (j % (xs.getD ax 0).toNat)
section
variable {ax : Nat} {xs : List Int}
theorem zm20 (h : ∀ n ∈ xs, 1 ≤ n) (ha : ax < xs.length) : 0 < (xs.getD ax 0).toNat := by
 have := zd2 h ax ha
 omega
theorem zc9 (h : ∀ n ∈ xs, 1 ≤ n) (ha : ax < xs.length) {j : Nat} (hj : j < plen xs) : j / (xs.getD ax 0).toNat < plen (xs.eraseIdx ax) ∧ j % (xs.getD ax 0).toNat < (xs.getD ax 0).toNat := by
 have hK := zm20 h ha
 refine ⟨(Nat.div_lt_iff_lt_mul hK).2 ?_, Nat.mod_lt _ hK⟩
 rw [← zt2 ax xs ha]; exact hj
theorem zj7 (h : ∀ n ∈ xs, 1 ≤ n) (ha : ax < xs.length) {j : Nat} (hj : j < plen xs) : kapJ ax xs j < plen xs := zu22 h ha _ (zc9 h ha hj).2
theorem zx21 (h : ∀ n ∈ xs, 1 ≤ n) (ha : ax < xs.length) {q : Nat} (hq : q < plen xs) : ∃ j, j < plen xs ∧ kapJ ax xs j = q := by
 obtain ⟨p, i, hp, hi, e, _⟩ := zj24 h ha hq
 have hle : (p + 1) * (xs.getD ax 0).toNat ≤ plen (xs.eraseIdx ax) * (xs.getD ax 0).toNat := Nat.mul_le_mul_right _ hp
 rw [Nat.add_mul, Nat.one_mul, ← zt2 ax xs ha] at hle
 refine ⟨p * (xs.getD ax 0).toNat + i, by omega, ?_⟩
 unfold kapJ
 rw [Nat.mul_comm, Nat.mul_add_div (by omega), Nat.div_eq_of_lt hi, Nat.add_zero, Nat.mul_add_mod, Nat.mod_eq_of_lt hi, e]
theorem zy21 (h : ∀ n ∈ xs, 1 ≤ n) (ha : ax < xs.length) {j j' : Nat} (hj : j < plen xs) (hj' : j' < plen xs) (e : kapJ ax xs j = kapJ ax xs j') : j = j' := by
 have d := zc9 h ha hj
 have d' := zc9 h ha hj'
 have e1 := zn5 ha
 have q := congrArg (idxL xs) e
 unfold kapJ at q
 rw [zi7 h ha _ d.2, zi7 h ha _ d'.2] at q
 have qi := congrArg (fun l => l.getD ax 0) q
 rw [zy9 _ _ _ (by rw [zc2]; omega), zy9 _ _ _ (by rw [zc2]; omega)] at qi
 have qe := congrArg (fun l => l.eraseIdx ax) q
 rw [zv13 _ _ _ (by rw [zc2]; omega), zv13 _ _ _ (by rw [zc2]; omega)] at qe
 have qn := congrArg (numL (xs.eraseIdx ax)) qe
 rw [zy6 _ _ (zt9 h) d.1, zy6 _ _ (zt9 h) d'.1] at qn
 have qi : j % (xs.getD ax 0).toNat = j' % (xs.getD ax 0).toNat := by omega
 rw [← Nat.div_add_mod j (xs.getD ax 0).toNat, ← Nat.div_add_mod j' (xs.getD ax 0).toNat, qn, qi]
theorem zp19 (h : ∀ n ∈ xs, 1 ≤ n) (ha : ax < xs.length) {sv : List Int} (off : Int) (hl : sv.length = xs.length) {j : Nat} (hj : j < plen xs) : (places (mvL ax xs) (mvL ax sv) off)[j]? = (places xs sv off)[kapJ ax xs j]? := by
 have d := zc9 h ha hj
 have := zq26 off h ha hl d.1 d.2
 rw [Nat.mul_comm, Nat.div_add_mod] at this
 exact this
end
theorem zr9 {ax : Nat} {xs sv : List Int} {off : Int} (hv : ValidV xs sv off) (ha : ax < xs.length) : ValidV (mvL ax xs) (mvL ax sv) off := by
 obtain ⟨h1, h2, h3, h4, h5⟩ := hv
 have ha2 : ax < sv.length := by omega
 obtain ⟨g1, g2⟩ := za19 h1 ha
 refine ⟨g1, by rw [zr3 ha, zr3 ha2, h2], h3, ?_, ?_⟩
 ·have hs : ∀ s ∈ sv, -4096 ≤ s ∧ s ≤ 4096 := fun s hs => by
   obtain ⟨j, hj, rfl⟩ := zm3 hs
   exact h4 j hj
  exact fun j hj => zd2 (fun s q => hs s (zz18 ha2 s q)) j hj
 ·rw [g2]
  by_cases hz : prod xs = 0
  ·exact Or.inl hz
  ·right
   have h5 := h5.resolve_left hz
   have hp : ∀ n ∈ xs, 1 ≤ n := fun n hn => (zg1 h1 hz n hn).1
   have hp2 : ∀ n ∈ mvL ax xs, 1 ≤ n := fun n hn => hp n (zz18 ha n hn)
   refine (zz15 (mvL ax xs) (mvL ax sv) off (by rw [zr3 ha, zr3 ha2, h2]) hp2).1 fun p hq => ?_
   obtain ⟨j, hj, e⟩ := List.getElem_of_mem hq
   rw [zq1 _ _ _ (by rw [zr3 ha, zr3 ha2, h2]), zk13 ha] at hj
   have q := zp19 hp ha (sv := sv) off h2 hj
   rw [List.getElem?_eq_getElem (by rw [zq1 _ _ _ (by rw [zr3 ha, zr3 ha2, h2]), zk13 ha]; exact hj), e] at q
   exact (zz15 xs sv off h2.symm hp).2 h5 p (List.mem_of_getElem? q.symm)
theorem zx6 {ax : Nat} {xs sv : List Int} {off : Int} (hv : ValidV xs sv off) (ha : ax < xs.length) : (offsL (mvL ax xs) (mvL ax sv) off).length = (offsL xs sv off).length ∧ ∀ j, j < (offsL xs sv off).length → (offsL (mvL ax xs) (mvL ax sv) off).getD j 0 = (offsL xs sv off).getD (kapJ ax xs j) 0 := by
 have hv2 := zr9 hv ha
 have e := (za19 hv.1 ha).2
 refine ⟨by rw [zx hv2, zx hv, e], fun j hj => ?_⟩
 rw [zx hv] at hj
 by_cases hz : prod xs = 0
 ·rw [hz] at hj; simp at hj
 ·have hp : ∀ n ∈ xs, 1 ≤ n := fun n hn => (zg1 hv.1 hz n hn).1
  have hpl := zw (fun n hn => by have := hp n hn; omega : ∀ n ∈ xs, 0 ≤ n)
  unfold offsL
  rw [if_neg (by rw [e]; exact hz), if_neg hz, List.getD_eq_getElem?_getD, List.getD_eq_getElem?_getD, zp19 hp ha off hv.2.1 (by omega)]
theorem zu23 {ax : Nat} {xs sv : List Int} {off : Int} {P : Int → Prop} (hv : ValidV xs sv off) (ha : ax < xs.length) (h : ∀ p ∈ offsL xs sv off, P p) : ∀ p ∈ offsL (mvL ax xs) (mvL ax sv) off, P p := fun p hp => by
 obtain ⟨j, hj, e⟩ := List.getElem_of_mem hp
 obtain ⟨m1, m2⟩ := zx6 hv ha
 have hj2 : j < (offsL xs sv off).length := by omega
 have q := m2 j hj2
 rw [List.getD_eq_getElem?_getD, List.getElem?_eq_getElem hj, Option.getD_some, e] at q
 rw [q]
 refine zd2 h _ ?_
 rw [zx hv] at hj2 ⊢
 by_cases hz : prod xs = 0
 ·rw [hz] at hj2; simp at hj2
 ·have hp : ∀ n ∈ xs, 1 ≤ n := fun n hn => (zg1 hv.1 hz n hn).1
  have hpl := zw (fun n hn => by have := hp n hn; omega : ∀ n ∈ xs, 0 ≤ n)
  have := zj7 hp ha (show j < plen xs by omega)
  omega
def G1 (c : C3) : Prop := I64 c.1 ∧ B64 c.2.1 ∧ B64 c.2.2
theorem C3.Sm.symm {c d : C3} (h : C3.Sm c d) : C3.Sm d c := ⟨h.1.symm, zm10 h.2.1, zm10 h.2.2⟩
theorem C3.Sm.trans {c d e : C3} (h : C3.Sm c d) (k : C3.Sm d e) : C3.Sm c e := ⟨h.1.trans k.1, zj8 h.2.1 k.2.1, zj8 h.2.2 k.2.2⟩
theorem zo18 (cs : List C3) (L : List Int) {X Y : List C3} : ∀ j, (∀ i, i < j → C3.Sm (X.getD i k0) (Y.getD i k0)) → CSm (putC cs L X j) (putC cs L Y j)
 | 0, _ => CSm.refl _
 | j + 1, h => by
  have ih := zo18 cs L j (fun i hi => h i (by omega))
  refine ⟨by rw [zm1, zm1], fun i hi => ?_⟩
  rw [zm1] at hi
  rw [putC, putC, zq2, zq2, zm1, zm1]
  split
  ·exact h j (by omega)
  ·exact ih.2 i (by rw [zm1]; exact hi)
theorem zr10 {cs : List C3} (h : CG cs) (L : List Int) {X : List C3} : ∀ j, (∀ i, i < j → G1 (X.getD i k0)) → CG (putC cs L X j)
 | 0, _ => h
 | j + 1, hX => by
  intro c hc
  rw [putC] at hc
  rcases List.mem_or_eq_of_mem_set hc with q | q
  ·exact zr10 h L j (fun i hi => hX i (by omega)) c q
  ·rw [q]; exact hX j (by omega)
def PutOk (ss : List St) (a : Ar) (Y : Nat → C3) (ts : List St) : Prop := a.Good ss ∧ ∃ X : List C3, X.length = a.offs.length ∧ (∀ j, j < X.length → C3.Sm (X.getD j k0) (Y j) ∧ G1 (X.getD j k0)) ∧ ts = putT ss a.st.toNat a.offs X a.offs.length
theorem PutOk.same {ss : List St} {a : Ar} {Y : Nat → C3} {ts ts' : List St} (h : PutOk ss a Y ts) (k : PutOk ss a Y ts') : SSm ts ts' := by
 obtain ⟨_, X, q2, q3, rfl⟩ := h
 obtain ⟨_, Z, r2, r3, rfl⟩ := k
 refine ⟨by rw [zo, zo], fun j hj => ?_⟩
 unfold putT
 rw [zq2, zq2]
 split
 ·exact ⟨rfl, zo18 _ _ _ fun i hi => (q3 i (by omega)).1.trans (r3 i (by omega)).1.symm⟩
 ·exact ⟨rfl, CSm.refl _⟩
theorem PutOk.good {ss : List St} {a : Ar} {Y : Nat → C3} {ts : List St} (h : PutOk ss a Y ts) (hg : SG ss) : SG ts := by
 obtain ⟨hgo, X, q2, q3, rfl⟩ := h
 intro s hs
 unfold putT at hs
 rcases List.mem_or_eq_of_mem_set hs with q | q
 ·exact hg s q
 ·rw [q]
  have h0 := hgo.1
  exact zr10 (hg.at a.st.toNat (by omega)) _ _ fun i hi => (q3 i (by omega)).2
theorem PutOk.few {ss : List St} {a : Ar} {Y : Nat → C3} {ts : List St} (h : PutOk ss a Y ts) (hl : SL ss 1048576) : SL ts 1048576 := by
 obtain ⟨hgo, X, q2, q3, rfl⟩ := h
 refine ⟨by rw [zo]; exact hl.1, fun s hs => ?_⟩
 unfold putT at hs
 rcases List.mem_or_eq_of_mem_set hs with q | q
 ·exact hl.2 s q
 ·rw [q]
  have h0 := hgo.1
  show (putC _ _ _ _).length ≤ _
  rw [zm1]
  exact hl.at a.st.toNat (by omega)
theorem zx18 {l : List Int} (h : l.Nodup) (hp : ∀ p ∈ l, 0 ≤ p) : ∀ i j, i < l.length → j < l.length → (l.getD i 0).toNat = (l.getD j 0).toNat → i = j := fun i j hi hj e => by
 have pi := zd2 hp i hi
 have pj := zd2 hp j hj
 have e2 : l.getD i 0 = l.getD j 0 := by omega
 rw [List.getD_eq_getElem?_getD, List.getD_eq_getElem?_getD, List.getElem?_eq_getElem hi, List.getElem?_eq_getElem hj] at e2
 have hpw := List.pairwise_iff_getElem.1 h
 rcases Nat.lt_trichotomy i j with z | z | z
 ·exact absurd e2 (hpw i j hi hj z)
 ·exact z
 ·exact absurd e2.symm (hpw j i hj hi z)
theorem zc26 {ss : List St} {a : Ar} {ax : Nat} {Y : Nat → C3} {Z : List C3} (hga : a.Good ss) (ha : ax < a.xs.length) (hw : WrV a.xs a.sv a.off) (hl : Z.length = a.offs.length) (hZ : ∀ j, j < Z.length → C3.Sm (Z.getD j k0) (Y (kapJ ax a.xs j)) ∧ G1 (Z.getD j k0)) :
  PutOk ss a Y (putT ss a.st.toNat (offsL (mvL ax a.xs) (mvL ax a.sv) a.off) Z (offsL (mvL ax a.xs) (mvL ax a.sv) a.off).length) := by
 obtain ⟨m1, m2⟩ := zx6 hga.2.1 ha
 have hlen : a.offs.length = (offsL a.xs a.sv a.off).length := rfl
 by_cases hz : prod a.xs = 0
 ·have h0 : (offsL a.xs a.sv a.off).length = 0 := by rw [zx hga.2.1, hz]; rfl
  refine ⟨hga, Z, hl, fun j hj => absurd hj (by omega), ?_⟩
  rw [m1, h0, hlen, h0, zr6 _ _ _ _ (by have := hga.1; omega), zr6 _ _ _ _ (by have := hga.1; omega)]
 ·have hp : ∀ n ∈ a.xs, 1 ≤ n := fun n hn => (zg1 hga.2.1.1 hz n hn).1
  have hpl := zw (fun n hn => by have := hp n hn; omega : ∀ n ∈ a.xs, 0 ≤ n)
  have hn : (offsL a.xs a.sv a.off).length = plen a.xs := by rw [zx hga.2.1]; omega
  rw [hlen, hn] at hl
  rw [m1, hn]
  rw [hn] at m2
  have inv : ∀ q, q < plen a.xs → ∃ j, j < plen a.xs ∧ kapJ ax a.xs j = q := fun q hq => zx21 hp ha hq
  obtain ⟨inv', hinv⟩ : ∃ f : Nat → Nat, ∀ q, q < plen a.xs → f q < plen a.xs ∧ kapJ ax a.xs (f q) = q := by
   refine ⟨fun q => if hq : q < plen a.xs then Classical.choose (inv q hq) else 0, fun q hq => ?_⟩
   simp only [dif_pos hq]
   exact Classical.choose_spec (inv q hq)
  have hinj := zx18 hw.2 (fun p hp => (zq3 hw.1 p hp).1)
  have hX : ∀ q, q < plen a.xs → (((List.range (plen a.xs)).map fun q => Z.getD (inv' q) k0)).getD q k0 = Z.getD (inv' q) k0 := fun q hq => by
   rw [List.getD_eq_getElem?_getD, List.getElem?_map, List.getElem?_range hq]
   rfl
  refine ⟨hga, (List.range (plen a.xs)).map fun q => Z.getD (inv' q) k0, by simp [hlen, hn], fun q hq => ?_, ?_⟩
  ·have hq : q < plen a.xs := by simpa using hq
   rw [hX q hq]
   have := hZ (inv' q) (by rw [hl]; exact (hinv q hq).1)
   rw [(hinv q hq).2] at this
   exact this
  ·rw [hlen, hn]
   unfold putT
   rw [show a.offs = offsL a.xs a.sv a.off from rfl]
   rw [zp16 _ (kapJ ax a.xs) (fun j hj => zj7 hp ha hj) inv m2 (fun j hj => ?_) (fun i j hi hj e => hinj i j (by omega) (by omega) e)]
   rw [hX _ (zj7 hp ha hj)]
   have hk := hinv _ (zj7 hp ha hj)
   rw [zy21 hp ha hk.1 hj hk.2]
end
section
open Go.ChangeShapes Go.RowKit FL
theorem zb5 {a b : Nat} (h : sameB a b = true) : fkey a = fkey b := by
 rcases (zk9 a b).1 h with ⟨h1, h2⟩ | ⟨_, rfl⟩
 ·unfold fkey; rw [if_pos h1, if_pos h2]
 ·rfl
theorem zj25 {dt : Int} {x y x' y' : C3} (hx : OkC dt x) (hy : OkC dt y) (hx' : OkC dt x') (hy' : OkC dt y') (e : C3.Sm x x') (f : C3.Sm y y') : befC dt x y = befC dt x' y' := by
 rw [zw2 hx hy, zw2 hx' hy']
 unfold key1 key2
 rw [e.1, f.1, zb5 e.2.1, zb5 f.2.1, zb5 e.2.2, zb5 f.2.2]
theorem zh13 (f : Nat → C3) (dt : Int) {n : Nat} (hn : 0 < n) : ∀ m, m ≤ n → ∀ q, 0 ≤ (ordL f dt n m).getD q 0 ∧ (ordL f dt n m).getD q 0 < n
 | 0, _, q => by
  rw [ordL, List.getD_eq_getElem?_getD, List.getElem?_replicate]
  split <;> simp <;> omega
 | m + 1, hm, q => by
  rw [ordL, zq2]
  split
  ·omega
  ·exact zh13 f dt hn m (by omega) q
theorem zm26 {xs : List Int} (h : ∀ n ∈ xs, 1 ≤ n) (h4 : xs.length ≤ 4) {ax i : Nat} (hi : i < (xs.getD ax 0).toNat) (k : Nat) : lnN xs ax (k : Int) i = (atN xs ax k i : Nat) := by
 unfold lnN atN
 rw [zw22 h h4, zg26 (zl25 h hi k) h4]
theorem zq21 {l : List C3} {p : Nat} (h : p < l.length) : l.getD p k0 ∈ l := by
 rw [List.getD_eq_getElem?_getD, List.getElem?_eq_getElem h]
 exact List.getElem_mem _
theorem zw19 {ss : List St} (hv : vHeap ss = true) (hg : SG ss) {a : Ar} (ha : a.Good ss) : isDtB (a.dt ss) = true ∧ ∀ j, j < (a.rd ss).length → OkC (a.dt ss) ((a.rd ss).getD j k0) := by
 unfold vHeap at hv
 rw [Bool.and_eq_true] at hv
 have h0 := ha.1
 have hs : vStore (ss.getD a.st.toNat s0) = true := by
  rw [List.all_eq_true] at hv
  refine hv.2 _ ?_
  rw [List.getD_eq_getElem?_getD, List.getElem?_eq_getElem (show a.st.toNat < ss.length by omega)]
  exact List.getElem_mem _
 unfold vStore at hs
 rw [Bool.and_eq_true, Bool.and_eq_true, List.all_eq_true] at hs
 refine ⟨hs.1.1, fun j hj => ?_⟩
 have hj2 := hj
 unfold Ar.rd readL at hj2 ⊢
 rw [List.length_map] at hj2
 rw [List.getD_eq_getElem?_getD, List.getElem?_map, List.getElem?_eq_getElem hj2]
 have hm := List.getElem_mem hj2
 have h1 := (zq3 ha.2.1 _ hm).1
 have h2 := ha.2.2 _ hm
 generalize (offsL a.xs a.sv a.off)[j] = p at hm h1 h2
 have hc := (hg.at a.st.toNat (by omega)).at p.toNat (by omega)
 have hval := hs.2 ((ss.getD a.st.toNat s0).2.getD p.toNat k0) (zq21 (by omega))
 exact ⟨hc.1, hc.2.1, hc.2.2, hval⟩
def sortC (ss : List St) (a : Ar) (ax : Int) : Int :=
 if firstL ss [a] ≠ 0 then firstL ss [a] else if ax < 0 ∨ (a.xs.length : Int) ≤ ax then 5 else if WrV a.xs a.sv a.off then 0 else 9
def SortOk (ss : List St) (a : Ar) (ax : Int) (c : Int) (ts : List St) : Prop := c = sortC ss a ax ∧ ((c ≠ 0 ∧ ts = []) ∨ (c = 0 ∧ PutOk ss a (srtQ (a.dt ss) (a.rd ss) a.xs ax.toNat) ts))
def Dn (n : Nat) (xs : List Int) (ax : Nat) (Y : Nat → C3) (Q : C3 → Prop) (k : Nat) (C : List C3) : Prop := C.length = n ∧ ∀ q, q < n → atN xs ax q 0 < k → C3.Sm (C.getD q k0) (Y q) ∧ Q (C.getD q k0)
theorem Dn.skip {xs : List Int} {ax : Nat} {Y : Nat → C3} {Q : C3 → Prop} {k : Nat} {C : List C3} (h : ∀ n ∈ xs, 1 ≤ n) (ha : ax < xs.length) (hd : Dn (plen xs) xs ax Y Q k C) (hk : (idxL xs k).getD ax 0 ≠ 0) : Dn (plen xs) xs ax Y Q (k + 1) C := by
 refine ⟨hd.1, fun q hq hlt => hd.2 q hq ?_⟩
 rcases Nat.lt_or_ge (atN xs ax q 0) k with z | z
 ·exact z
 ·have e : atN xs ax q 0 = k := by omega
  have := zx26 h ha (zm20 h ha) q
  rw [e] at this
  exact absurd this (by simpa using hk)
def Dl (n : Nat) (xs : List Int) (ax : Nat) (Y : Nat → C3) (Q : C3 → Prop) (k m : Nat) (C : List C3) : Prop := C.length = n ∧ (∀ q, q < n → atN xs ax q 0 < k → C3.Sm (C.getD q k0) (Y q) ∧ Q (C.getD q k0)) ∧ ∀ i, i < m → C3.Sm (C.getD (atN xs ax k i) k0) (Y (atN xs ax k i)) ∧ Q (C.getD (atN xs ax k i) k0)
theorem Dl.step {xs : List Int} {ax : Nat} {Y : Nat → C3} {Q : C3 → Prop} {k m : Nat} {C : List C3} {c : C3} (hd : Dl (plen xs) xs ax Y Q k m C) (hlt : atN xs ax k m < plen xs) (hc : C3.Sm c (Y (atN xs ax k m)) ∧ Q c) : Dl (plen xs) xs ax Y Q k (m + 1) (C.set (atN xs ax k m) c) := by
 obtain ⟨d1, d2, d3⟩ := hd
 have key : ∀ q, (C3.Sm (C.getD q k0) (Y q) ∧ Q (C.getD q k0)) → C3.Sm ((C.set (atN xs ax k m) c).getD q k0) (Y q) ∧ Q ((C.set (atN xs ax k m) c).getD q k0) := fun q hq => by
  rw [zq2]
  split
  ·next z => rw [← z.1]; exact hc
  ·exact hq
 refine ⟨by rw [List.length_set]; exact d1, fun q hq hlt => key q (d2 q hq hlt), fun i hi => ?_⟩
 rcases Nat.lt_or_ge i m with z | z
 ·exact key _ (d3 i z)
 ·have e : i = m := by omega
  subst e
  rw [zq2]
  rw [if_pos ⟨rfl, by omega⟩]
  exact hc
theorem Dn.lane {n : Nat} {xs : List Int} {ax : Nat} {Y : Nat → C3} {Q : C3 → Prop} {k : Nat} {C : List C3} (hd : Dn n xs ax Y Q k C) : Dl n xs ax Y Q k 0 C := ⟨hd.1, hd.2, fun i hi => absurd hi (by omega)⟩
theorem Dl.done {xs : List Int} {ax : Nat} {Y : Nat → C3} {Q : C3 → Prop} {k : Nat} {C : List C3} (h : ∀ n ∈ xs, 1 ≤ n) (ha : ax < xs.length) (hd : Dl (plen xs) xs ax Y Q k (xs.getD ax 0).toNat C) : Dn (plen xs) xs ax Y Q (k + 1) C := by
 refine ⟨hd.1, fun q hq hlt => ?_⟩
 rcases Nat.lt_or_ge (atN xs ax q 0) k with z | z
 ·exact hd.2.1 q hq z
 ·have e : atN xs ax q 0 = k := by omega
  have e2 := zm25 h ha hq
  rw [e] at e2
  have := hd.2.2 ((idxL xs q).getD ax 0).toNat (zz21 h ha q).2
  rw [← e2] at this
  exact this
theorem Dn.all {xs : List Int} {ax : Nat} {Y : Nat → C3} {Q : C3 → Prop} {C : List C3} (h : ∀ n ∈ xs, 1 ≤ n) (ha : ax < xs.length) (hd : Dn (plen xs) xs ax Y Q (plen xs) C) : ∀ q, q < C.length → C3.Sm (C.getD q k0) (Y q) ∧ Q (C.getD q k0) := fun q hq => hd.2 q (by rw [← hd.1]; exact hq) (zw26 h (zm20 h ha) q)
theorem zt13 (dt : Int) (w : World) :
  Calls Tryz.prog 154 #[O ι dt] w fun e w' => e = .returned (O ι (bytesL dt)) ∧ w' = w := by
 go_enter Tryz.func154, Tryz.ntmps154
 go_wp2
 all_goals go_ret
 all_goals refine ⟨zl1 ?_, rfl⟩
 all_goals (unfold bytesL; simp only [beq_iff_eq, beq_eq_false_iff_ne, ne_eq] at *; repeat' split)
 all_goals omega
theorem zg3 (dt : Int) (w : World) :
  Calls Tryz.prog 139 #[O ι dt] w fun e w' => e = .returned (O ι (8 * bytesL dt)) ∧ w' = w := by
 have hb : 1 ≤ bytesL dt ∧ bytesL dt ≤ 16 := by unfold bytesL; omega
 go_enter Tryz.func139, Tryz.ntmps139
 go_wp2_with (go_at_call 154; refine (zt13 _ _).mono ?_; rintro e w' ⟨rfl, rfl⟩)
 go_ret
 exact ⟨rfl, rfl⟩
theorem zx5 (v m : Int) (hm : 0 < m) : v.tmod m = if 0 ≤ v then v % m else -((-v) % m) := by
 split
 ·rename_i h; exact Int.tmod_eq_emod_of_nonneg h
 ·rename_i h
  have := Int.neg_tmod (a := -v) (b := m)
  rw [Int.neg_neg] at this
  rw [this, Int.tmod_eq_emod_of_nonneg (by omega)]
theorem zi24 (v : Int) (hv : I64 v) (w : World) :
  Calls Tryz.prog 110 #[O ι 2, O ι v] w fun e w' => e = .returned (O ι (cutL 2 v)) ∧ w' = w := by
 have hb : bytesL 2 = 1 := by decide
 have hh : highL 2 = 127 := by decide
 have Ht := hide (zx5 v 256 (by decide))
 go_enter Tryz.func110, Tryz.ntmps110
 go_wp2_with (first | (go_at_call 139; refine (zg3 _ _).mono ?_; rintro e w' ⟨rfl, rfl⟩) | (go_at_call 136; refine (zf3 _ _).mono ?_; rintro e w' ⟨rfl, rfl⟩))
 all_goals go_ret
 all_goals refine ⟨zl1 ?_, rfl⟩
 all_goals go_light
 all_goals (have ht := Ht.out; unfold I64 at hv; unfold cutL; simp only [wrap64, IntKind.wrap_i64] at *; simp; split at ht <;> omega)
theorem zh24 (v : Int) (hv : I64 v) (w : World) :
  Calls Tryz.prog 110 #[O ι 3, O ι v] w fun e w' => e = .returned (O ι (cutL 3 v)) ∧ w' = w := by
 have hb : bytesL 3 = 1 := by decide
 have hh : highL 3 = 255 := by decide
 have Ht := hide (zx5 v 256 (by decide))
 go_enter Tryz.func110, Tryz.ntmps110
 go_wp2_with (first | (go_at_call 139; refine (zg3 _ _).mono ?_; rintro e w' ⟨rfl, rfl⟩) | (go_at_call 136; refine (zf3 _ _).mono ?_; rintro e w' ⟨rfl, rfl⟩))
 all_goals go_ret
 all_goals refine ⟨zl1 ?_, rfl⟩
 all_goals go_light
 all_goals (have ht := Ht.out; unfold I64 at hv; unfold cutL; simp only [wrap64, IntKind.wrap_i64] at *; simp; split at ht <;> omega)
theorem zg24 (v : Int) (hv : I64 v) (w : World) :
  Calls Tryz.prog 110 #[O ι 4, O ι v] w fun e w' => e = .returned (O ι (cutL 4 v)) ∧ w' = w := by
 have hb : bytesL 4 = 2 := by decide
 have hh : highL 4 = 32767 := by decide
 have Ht := hide (zx5 v 65536 (by decide))
 go_enter Tryz.func110, Tryz.ntmps110
 go_wp2_with (first | (go_at_call 139; refine (zg3 _ _).mono ?_; rintro e w' ⟨rfl, rfl⟩) | (go_at_call 136; refine (zf3 _ _).mono ?_; rintro e w' ⟨rfl, rfl⟩))
 all_goals go_ret
 all_goals refine ⟨zl1 ?_, rfl⟩
 all_goals go_light
 all_goals (have ht := Ht.out; unfold I64 at hv; unfold cutL; simp only [wrap64, IntKind.wrap_i64] at *; simp; split at ht <;> omega)
theorem zf24 (v : Int) (hv : I64 v) (w : World) :
  Calls Tryz.prog 110 #[O ι 5, O ι v] w fun e w' => e = .returned (O ι (cutL 5 v)) ∧ w' = w := by
 have hb : bytesL 5 = 4 := by decide
 have hh : highL 5 = 2147483647 := by decide
 have Ht := hide (zx5 v 4294967296 (by decide))
 go_enter Tryz.func110, Tryz.ntmps110
 go_wp2_with (first | (go_at_call 139; refine (zg3 _ _).mono ?_; rintro e w' ⟨rfl, rfl⟩) | (go_at_call 136; refine (zf3 _ _).mono ?_; rintro e w' ⟨rfl, rfl⟩))
 all_goals go_ret
 all_goals refine ⟨zl1 ?_, rfl⟩
 all_goals go_light
 all_goals (have ht := Ht.out; unfold I64 at hv; unfold cutL; simp only [wrap64, IntKind.wrap_i64] at *; simp; split at ht <;> omega)
theorem ze24 (v : Int) (w : World) :
  Calls Tryz.prog 110 #[O ι 6, O ι v] w fun e w' => e = .returned (O ι (cutL 6 v)) ∧ w' = w := by
 have hb : bytesL 6 = 8 := by decide
 go_enter Tryz.func110, Tryz.ntmps110
 go_wp2_with (first | (go_at_call 139; refine (zg3 _ _).mono ?_; rintro e w' ⟨rfl, rfl⟩))
 go_ret
 exact ⟨zl1 (by unfold cutL; simp), rfl⟩
theorem zm11 (dt v : Int) (h : 2 ≤ dt ∧ dt ≤ 6) (hv : I64 v) (w : World) :
  Calls Tryz.prog 110 #[O ι dt, O ι v] w fun e w' => e = .returned (O ι (cutL dt v)) ∧ w' = w := by
 have : dt = 2 ∨ dt = 3 ∨ dt = 4 ∨ dt = 5 ∨ dt = 6 := by omega
 rcases this with rfl | rfl | rfl | rfl | rfl
 ·exact zi24 v hv w
 ·exact zh24 v hv w
 ·exact zg24 v hv w
 ·exact zf24 v hv w
 ·exact ze24 v w
theorem zs26 {dt : Int} {x : C3} (h : OkC dt x) (hd : isDtB dt = true) (w : World) :
  Calls Tryz.prog 125 #[O ι dt, O ι dt, cellV x] w fun e w' => e = .returned (cellV x) ∧ Ext w w' := by
 obtain ⟨i, f, g⟩ := x
 obtain ⟨h1, h2, h3, h4⟩ := h
 unfold cellV
 have x0 : Ext w (w.alloc (χ #[O ι i, .float .f64 f, .float .f64 g] 66)) := (Ext.refl w).alloc _ _
 have x1 : Ext (w.alloc (χ #[O ι i, .float .f64 f, .float .f64 g] 66)) ((w.alloc (χ #[O ι i, .float .f64 f, .float .f64 g] 66)).alloc (χ #[O ι 0, .float .f64 0, .float .f64 0] 66)) := (Ext.refl _).alloc _ _
 have X0 := hide (x0.trans x1)
 have n0 := fun j => zd w #[O ι i, .float .f64 f, .float .f64 g] 66 w.heap.size rfl j
 have n1 := fun j => zd (w.alloc (χ #[O ι i, .float .f64 f, .float .f64 g] 66)) #[O ι 0, .float .f64 0, .float .f64 0] 66 (w.heap.size + 1) (by simp) j
 have k0 := x1.box (n0 0)
 have k1 := x1.box (n0 1)
 have k2 := x1.box (n0 2)
 have m0 := n1 0
 have m1 := n1 1
 have m2 := n1 2
 simp only [List.getElem?_toArray, List.getElem?_cons_zero, List.getElem?_cons_succ] at m0 m1 m2
 clear n0 n1 x0 x1
 have hval := hide (fun W => zd1 dt i f g h1 h2 h3 W)
 rw [h4] at hval
 clear h1 h2 h3 h4
 go_enter Tryz.func125, Tryz.ntmps125
 go_wp2_with (go_at_call 116; refine (zp1 _ _).mono ?_; rintro e w' ⟨rfl, rfl⟩; rw [hd])
 generalize ((w.alloc (χ #[O ι i, .float .f64 f, .float .f64 g] 66)).alloc (χ #[O ι 0, .float .f64 0, .float .f64 0] 66)) = W0 at *
 refine (hval.out _).mono ?_
 rintro e w1 ⟨rfl, x1⟩
 have c0 := x1.box k0
 have c1 := x1.box k1
 have c2 := x1.box k2
 have d0 := x1.box m0
 have d1 := x1.box m1
 have d2 := x1.box m2
 have HX := hide (X0.out.trans x1)
 have fz := fun (q : Nat) => HX.out.unfrozen (b := w.heap.size + 1) (by omega) q
 have hf := fz 0
 have hf1 := fz 1
 have hf2 := fz 2
 clear x1 k0 k1 k2 m0 m1 m2 X0 hval fz
 go_wp2_with fail
 refine bodyPost_ret (v := γ #[O ι i, .float .f64 f, .float .f64 g]) (by simp [results, Tryz.results125, go_sem, d0, d1, d2]) rfl ⟨rfl, ?_⟩
 exact ((HX.out.setCell (p := ⟨w.heap.size + 1, 0, none⟩) (by show _ ≤ w.heap.size + 1; omega) _).setCell (p := ⟨w.heap.size + 1, 1, none⟩) (by show _ ≤ w.heap.size + 1; omega) _).setCell (p := ⟨w.heap.size + 1, 2, none⟩) (by show _ ≤ w.heap.size + 1; omega) _
theorem zz20  (w : World) :
  Calls Tryz.prog 73 #[O ι 1, O ι 1, γ #[O ι 0, .float .f64 0, .float .f64 0]] w fun e w' => e = .returned (γ #[O ι 0, .float .f64 0, .float .f64 0]) ∧ Ext w w' := by
 have x0 : Ext w (w.alloc (χ #[O ι 0, .float .f64 0, .float .f64 0] 66)) := (Ext.refl w).alloc _ _
 have x1 : Ext (w.alloc (χ #[O ι 0, .float .f64 0, .float .f64 0] 66)) ((w.alloc (χ #[O ι 0, .float .f64 0, .float .f64 0] 66)).alloc (χ #[O ι 0, .float .f64 0, .float .f64 0] 66)) := (Ext.refl _).alloc _ _
 have X0 := hide (x0.trans x1)
 have n0 := fun j => zd w #[O ι 0, .float .f64 0, .float .f64 0] 66 w.heap.size rfl j
 have n1 := fun j => zd (w.alloc (χ #[O ι 0, .float .f64 0, .float .f64 0] 66)) #[O ι 0, .float .f64 0, .float .f64 0] 66 (w.heap.size + 1) (by simp) j
 have k0 := x1.box (n0 0)
 have k1 := x1.box (n0 1)
 have k2 := x1.box (n0 2)
 have m0 := n1 0
 have m1 := n1 1
 have m2 := n1 2
 simp only [List.getElem?_toArray, List.getElem?_cons_zero, List.getElem?_cons_succ] at m0 m1 m2
 clear n0 n1 x0 x1
 have hv0 : validB 1 0 0 0 = true := by decide
 have hkf : skindL 1 = 0 := by decide
 have hkt : skindL 1 = 0 := by decide
 have hq0 : feq 0 0 = true := by decide
 have hval := hide (fun W => zu 1 0 0 0 (by unfold B64; omega) (by unfold B64; omega) W)
 have hdt : isDtB 1 = true := by decide
 go_enter Tryz.func73, Tryz.ntmps73
 go_wp2_with fail
 generalize ((w.alloc (χ #[O ι 0, .float .f64 0, .float .f64 0] 66)).alloc (χ #[O ι 0, .float .f64 0, .float .f64 0] 66)) = W0 at *
 refine (hval.out _).mono ?_
 rintro e w1 ⟨rfl, x1⟩
 rw [hv0]
 have c0 := x1.box k0
 have c1 := x1.box k1
 have c2 := x1.box k2
 have d0 := x1.box m0
 have d1 := x1.box m1
 have d2 := x1.box m2
 have HX := hide (X0.out.trans x1)
 have fz := fun (q : Nat) => HX.out.unfrozen (b := w.heap.size + 1) (by omega) q
 have hf := fz 0
 have hf1 := fz 1
 have hf2 := fz 2
 clear x1 k0 k1 k2 m0 m1 m2 X0 hval fz
 go_wp2_with (first | (go_at_call 103; refine (zn _ _).mono ?_; rintro e w' ⟨rfl, rfl⟩; rw [hdt]) | (go_at_call 109; refine (zv _ _).mono ?_; rintro e w' ⟨rfl, rfl⟩; first | rw [hkf] | rw [hkt]))
 refine bodyPost_ret (v := γ #[O ι 0, .float .f64 0, .float .f64 0]) (by simp [results, Tryz.results73, go_sem, d0, d1, d2]) rfl ⟨rfl, ?_⟩
 exact ((HX.out.setCell (p := ⟨w.heap.size + 1, 0, none⟩) (by show _ ≤ w.heap.size + 1; omega) _).setCell (p := ⟨w.heap.size + 1, 1, none⟩) (by show _ ≤ w.heap.size + 1; omega) _).setCell (p := ⟨w.heap.size + 1, 2, none⟩) (by show _ ≤ w.heap.size + 1; omega) _
theorem zy20  (w : World) :
  Calls Tryz.prog 73 #[O ι 1, O ι 1, γ #[O ι 1, .float .f64 0, .float .f64 0]] w fun e w' => e = .returned (γ #[O ι 1, .float .f64 0, .float .f64 0]) ∧ Ext w w' := by
 have x0 : Ext w (w.alloc (χ #[O ι 1, .float .f64 0, .float .f64 0] 66)) := (Ext.refl w).alloc _ _
 have x1 : Ext (w.alloc (χ #[O ι 1, .float .f64 0, .float .f64 0] 66)) ((w.alloc (χ #[O ι 1, .float .f64 0, .float .f64 0] 66)).alloc (χ #[O ι 0, .float .f64 0, .float .f64 0] 66)) := (Ext.refl _).alloc _ _
 have X0 := hide (x0.trans x1)
 have n0 := fun j => zd w #[O ι 1, .float .f64 0, .float .f64 0] 66 w.heap.size rfl j
 have n1 := fun j => zd (w.alloc (χ #[O ι 1, .float .f64 0, .float .f64 0] 66)) #[O ι 0, .float .f64 0, .float .f64 0] 66 (w.heap.size + 1) (by simp) j
 have k0 := x1.box (n0 0)
 have k1 := x1.box (n0 1)
 have k2 := x1.box (n0 2)
 have m0 := n1 0
 have m1 := n1 1
 have m2 := n1 2
 simp only [List.getElem?_toArray, List.getElem?_cons_zero, List.getElem?_cons_succ] at m0 m1 m2
 clear n0 n1 x0 x1
 have hv0 : validB 1 1 0 0 = true := by decide
 have hkf : skindL 1 = 0 := by decide
 have hkt : skindL 1 = 0 := by decide
 have hq0 : feq 0 0 = true := by decide
 have hval := hide (fun W => zu 1 1 0 0 (by unfold B64; omega) (by unfold B64; omega) W)
 have hdt : isDtB 1 = true := by decide
 go_enter Tryz.func73, Tryz.ntmps73
 go_wp2_with fail
 generalize ((w.alloc (χ #[O ι 1, .float .f64 0, .float .f64 0] 66)).alloc (χ #[O ι 0, .float .f64 0, .float .f64 0] 66)) = W0 at *
 refine (hval.out _).mono ?_
 rintro e w1 ⟨rfl, x1⟩
 rw [hv0]
 have c0 := x1.box k0
 have c1 := x1.box k1
 have c2 := x1.box k2
 have d0 := x1.box m0
 have d1 := x1.box m1
 have d2 := x1.box m2
 have HX := hide (X0.out.trans x1)
 have fz := fun (q : Nat) => HX.out.unfrozen (b := w.heap.size + 1) (by omega) q
 have hf := fz 0
 have hf1 := fz 1
 have hf2 := fz 2
 clear x1 k0 k1 k2 m0 m1 m2 X0 hval fz
 go_wp2_with (first | (go_at_call 103; refine (zn _ _).mono ?_; rintro e w' ⟨rfl, rfl⟩; rw [hdt]) | (go_at_call 109; refine (zv _ _).mono ?_; rintro e w' ⟨rfl, rfl⟩; first | rw [hkf] | rw [hkt]))
 refine bodyPost_ret (v := γ #[O ι 1, .float .f64 0, .float .f64 0]) (by simp [results, Tryz.results73, go_sem, d0, d1, d2]) rfl ⟨rfl, ?_⟩
 exact ((HX.out.setCell (p := ⟨w.heap.size + 1, 0, none⟩) (by show _ ≤ w.heap.size + 1; omega) _).setCell (p := ⟨w.heap.size + 1, 1, none⟩) (by show _ ≤ w.heap.size + 1; omega) _).setCell (p := ⟨w.heap.size + 1, 2, none⟩) (by show _ ≤ w.heap.size + 1; omega) _
theorem zv25 (dt i : Int) (h26 : 2 ≤ dt ∧ dt ≤ 6) (hi : I64 i) (hr : lowL dt ≤ i ∧ i ≤ highL dt) (w : World) :
  Calls Tryz.prog 73 #[O ι dt, O ι dt, γ #[O ι i, .float .f64 0, .float .f64 0]] w fun e w' => e = .returned (γ #[O ι i, .float .f64 0, .float .f64 0]) ∧ Ext w w' := by
 have x0 : Ext w (w.alloc (χ #[O ι i, .float .f64 0, .float .f64 0] 66)) := (Ext.refl w).alloc _ _
 have x1 : Ext (w.alloc (χ #[O ι i, .float .f64 0, .float .f64 0] 66)) ((w.alloc (χ #[O ι i, .float .f64 0, .float .f64 0] 66)).alloc (χ #[O ι 0, .float .f64 0, .float .f64 0] 66)) := (Ext.refl _).alloc _ _
 have X0 := hide (x0.trans x1)
 have n0 := fun j => zd w #[O ι i, .float .f64 0, .float .f64 0] 66 w.heap.size rfl j
 have n1 := fun j => zd (w.alloc (χ #[O ι i, .float .f64 0, .float .f64 0] 66)) #[O ι 0, .float .f64 0, .float .f64 0] 66 (w.heap.size + 1) (by simp) j
 have k0 := x1.box (n0 0)
 have k1 := x1.box (n0 1)
 have k2 := x1.box (n0 2)
 have m0 := n1 0
 have m1 := n1 1
 have m2 := n1 2
 simp only [List.getElem?_toArray, List.getElem?_cons_zero, List.getElem?_cons_succ] at m0 m1 m2
 clear n0 n1 x0 x1
 have hv0 : validB dt i 0 0 = true := by
  have e1 : pzB 0 = true := by decide
  unfold validB rngB
  rw [if_pos (by omega), e1, decide_eq_true hr]
  rfl
 have hkf : skindL dt = 1 := by unfold skindL; rcases (show dt = 2 ∨ dt = 3 ∨ dt = 4 ∨ dt = 5 ∨ dt = 6 by omega) with rfl | rfl | rfl | rfl | rfl <;> rfl
 have hkt : skindL dt = 1 := hkf
 have hcut : cutL dt i = i := by
  have := zm14 dt i h26 hi
  rw [decide_eq_true hr] at this
  exact eq_of_beq this
 have hval := hide (fun W => zu dt i 0 0 (by unfold B64; omega) (by unfold B64; omega) W)
 have hdt : isDtB dt = true := by unfold isDtB; exact decide_eq_true (by omega)
 go_enter Tryz.func73, Tryz.ntmps73
 go_wp2_with fail
 generalize ((w.alloc (χ #[O ι i, .float .f64 0, .float .f64 0] 66)).alloc (χ #[O ι 0, .float .f64 0, .float .f64 0] 66)) = W0 at *
 refine (hval.out _).mono ?_
 rintro e w1 ⟨rfl, x1⟩
 rw [hv0]
 have c0 := x1.box k0
 have c1 := x1.box k1
 have c2 := x1.box k2
 have d0 := x1.box m0
 have d1 := x1.box m1
 have d2 := x1.box m2
 have HX := hide (X0.out.trans x1)
 have fz := fun (q : Nat) => HX.out.unfrozen (b := w.heap.size + 1) (by omega) q
 have hf := fz 0
 have hf1 := fz 1
 have hf2 := fz 2
 clear x1 k0 k1 k2 m0 m1 m2 X0 hval fz
 go_wp2_with (first | (go_at_call 103; refine (zn _ _).mono ?_; rintro e w' ⟨rfl, rfl⟩; rw [hdt]) | (go_at_call 109; refine (zv _ _).mono ?_; rintro e w' ⟨rfl, rfl⟩; first | rw [hkf] | rw [hkt]) | (go_at_call 110; refine (zm11 _ _ h26 hi _).mono ?_; rintro e w' ⟨rfl, rfl⟩; rw [hcut]))
 refine bodyPost_ret (v := γ #[O ι i, .float .f64 0, .float .f64 0]) (by simp [results, Tryz.results73, go_sem, d0, d1, d2]) rfl ⟨rfl, ?_⟩
 exact ((HX.out.setCell (p := ⟨w.heap.size + 1, 0, none⟩) (by show _ ≤ w.heap.size + 1; omega) _).setCell (p := ⟨w.heap.size + 1, 1, none⟩) (by show _ ≤ w.heap.size + 1; omega) _).setCell (p := ⟨w.heap.size + 1, 2, none⟩) (by show _ ≤ w.heap.size + 1; omega) _
theorem zy25 (x : Nat) (hx : B64 x) (hs : sngB x = true) (w : World) :
  Calls Tryz.prog 73 #[O ι 7, O ι 7, γ #[O ι 0, .float .f64 x, .float .f64 0]] w fun e w' => ∃ r, e = .returned (γ #[O ι 0, .float .f64 r, .float .f64 0]) ∧ SingleR x r ∧ Ext w w' := by
 have x0 : Ext w (w.alloc (χ #[O ι 0, .float .f64 x, .float .f64 0] 66)) := (Ext.refl w).alloc _ _
 have x1 : Ext (w.alloc (χ #[O ι 0, .float .f64 x, .float .f64 0] 66)) ((w.alloc (χ #[O ι 0, .float .f64 x, .float .f64 0] 66)).alloc (χ #[O ι 0, .float .f64 0, .float .f64 0] 66)) := (Ext.refl _).alloc _ _
 have X0 := hide (x0.trans x1)
 have n0 := fun j => zd w #[O ι 0, .float .f64 x, .float .f64 0] 66 w.heap.size rfl j
 have n1 := fun j => zd (w.alloc (χ #[O ι 0, .float .f64 x, .float .f64 0] 66)) #[O ι 0, .float .f64 0, .float .f64 0] 66 (w.heap.size + 1) (by simp) j
 have k0 := x1.box (n0 0)
 have k1 := x1.box (n0 1)
 have k2 := x1.box (n0 2)
 have m0 := n1 0
 have m1 := n1 1
 have m2 := n1 2
 simp only [List.getElem?_toArray, List.getElem?_cons_zero, List.getElem?_cons_succ] at m0 m1 m2
 clear n0 n1 x0 x1
 have hv0 : validB 7 0 x 0 = true := by
  have e1 : pzB 0 = true := by decide
  unfold validB
  rw [if_neg (by omega), if_pos rfl, e1, hs]
  rfl
 have hkf : skindL 7 = 2 := by decide
 have hkt : skindL 7 = 2 := hkf
 have hval := hide (fun W => zu 7 0 x 0 hx (by unfold B64; omega) W)
 have hdt : isDtB 7 = true := by decide
 go_enter Tryz.func73, Tryz.ntmps73
 go_wp2_with fail
 generalize ((w.alloc (χ #[O ι 0, .float .f64 x, .float .f64 0] 66)).alloc (χ #[O ι 0, .float .f64 0, .float .f64 0] 66)) = W0 at *
 refine (hval.out _).mono ?_
 rintro e w1 ⟨rfl, x1⟩
 rw [hv0]
 have c0 := x1.box k0
 have c1 := x1.box k1
 have c2 := x1.box k2
 have d0 := x1.box m0
 have d1 := x1.box m1
 have d2 := x1.box m2
 have HX := hide (X0.out.trans x1)
 have fz := fun (q : Nat) => HX.out.unfrozen (b := w.heap.size + 1) (by omega) q
 have hf := fz 0
 have hf1 := fz 1
 have hf2 := fz 2
 clear x1 k0 k1 k2 m0 m1 m2 X0 hval fz
 go_wp2_with (first | (go_at_call 103; refine (zn _ _).mono ?_; rintro e w' ⟨rfl, rfl⟩; rw [hdt]) | (go_at_call 109; refine (zv _ _).mono ?_; rintro e w' ⟨rfl, rfl⟩; first | rw [hkf] | rw [hkt]) | (go_at_call 112; refine (zp15 x hx _).mono ?_; rintro e w' ⟨r, n, rfl, hr, rfl⟩))
 refine bodyPost_ret (v := γ #[O ι 0, .float .f64 r, .float .f64 0]) (by simp [results, Tryz.results73, go_sem, d0, d1, d2]) rfl ⟨r, rfl, hr, ?_⟩
 exact ((HX.out.drewN n |>.setCell (p := ⟨w.heap.size + 1, 0, none⟩) (by show _ ≤ w.heap.size + 1; omega) _).setCell (p := ⟨w.heap.size + 1, 1, none⟩) (by show _ ≤ w.heap.size + 1; omega) _).setCell (p := ⟨w.heap.size + 1, 2, none⟩) (by show _ ≤ w.heap.size + 1; omega) _
theorem zx25 (x y : Nat) (hx : B64 x) (hy : B64 y) (w : World) :
  Calls Tryz.prog 73 #[O ι 9, O ι 9, γ #[O ι 0, .float .f64 x, .float .f64 y]] w fun e w' => e = .returned (γ #[O ι 0, .float .f64 x, .float .f64 y]) ∧ Ext w w' := by
 have x0 : Ext w (w.alloc (χ #[O ι 0, .float .f64 x, .float .f64 y] 66)) := (Ext.refl w).alloc _ _
 have x1 : Ext (w.alloc (χ #[O ι 0, .float .f64 x, .float .f64 y] 66)) ((w.alloc (χ #[O ι 0, .float .f64 x, .float .f64 y] 66)).alloc (χ #[O ι 0, .float .f64 0, .float .f64 0] 66)) := (Ext.refl _).alloc _ _
 have X0 := hide (x0.trans x1)
 have n0 := fun j => zd w #[O ι 0, .float .f64 x, .float .f64 y] 66 w.heap.size rfl j
 have n1 := fun j => zd (w.alloc (χ #[O ι 0, .float .f64 x, .float .f64 y] 66)) #[O ι 0, .float .f64 0, .float .f64 0] 66 (w.heap.size + 1) (by simp) j
 have k0 := x1.box (n0 0)
 have k1 := x1.box (n0 1)
 have k2 := x1.box (n0 2)
 have m0 := n1 0
 have m1 := n1 1
 have m2 := n1 2
 simp only [List.getElem?_toArray, List.getElem?_cons_zero, List.getElem?_cons_succ] at m0 m1 m2
 clear n0 n1 x0 x1
 have hv0 : validB 9 0 x y = true := rfl
 have hkf : skindL 9 = 3 := by decide
 have hkt : skindL 9 = 3 := hkf
 have hval := hide (fun W => zu 9 0 x y hx hy W)
 have hdt : isDtB 9 = true := by decide
 go_enter Tryz.func73, Tryz.ntmps73
 go_wp2_with fail
 generalize ((w.alloc (χ #[O ι 0, .float .f64 x, .float .f64 y] 66)).alloc (χ #[O ι 0, .float .f64 0, .float .f64 0] 66)) = W0 at *
 refine (hval.out _).mono ?_
 rintro e w1 ⟨rfl, x1⟩
 rw [hv0]
 have c0 := x1.box k0
 have c1 := x1.box k1
 have c2 := x1.box k2
 have d0 := x1.box m0
 have d1 := x1.box m1
 have d2 := x1.box m2
 have HX := hide (X0.out.trans x1)
 have fz := fun (q : Nat) => HX.out.unfrozen (b := w.heap.size + 1) (by omega) q
 have hf := fz 0
 have hf1 := fz 1
 have hf2 := fz 2
 clear x1 k0 k1 k2 m0 m1 m2 X0 hval fz
 go_wp2_with (first | (go_at_call 103; refine (zn _ _).mono ?_; rintro e w' ⟨rfl, rfl⟩; rw [hdt]) | (go_at_call 109; refine (zv _ _).mono ?_; rintro e w' ⟨rfl, rfl⟩; first | rw [hkf] | rw [hkt]))
 refine bodyPost_ret (v := γ #[O ι 0, .float .f64 x, .float .f64 y]) (by simp [results, Tryz.results73, go_sem, d0, d1, d2]) rfl ⟨rfl, ?_⟩
 exact ((HX.out.setCell (p := ⟨w.heap.size + 1, 0, none⟩) (by show _ ≤ w.heap.size + 1; omega) _).setCell (p := ⟨w.heap.size + 1, 1, none⟩) (by show _ ≤ w.heap.size + 1; omega) _).setCell (p := ⟨w.heap.size + 1, 2, none⟩) (by show _ ≤ w.heap.size + 1; omega) _
def SCv (dt : Int) (x : C3) (w : World) (e : Ending) (w' : World) : Prop := ∃ c, e = .returned (cellV c) ∧ C3.Sm c x ∧ OkC dt c ∧ Ext w w'
theorem zn9 {f : Nat} (h : pzB f = true) : f = 0 := of_decide_eq_true h
theorem zw25 {dt : Int} {x : C3} (h : OkC dt x) (hd : isDtB dt = true) (w : World) : Calls Tryz.prog 73 #[O ι dt, O ι dt, cellV x] w fun e w' => SCv dt x w e w' := by
 obtain ⟨i, f, g⟩ := x
 have hok := h
 obtain ⟨h1, h2, h3, h4⟩ := h
 have hd := of_decide_eq_true hd
 unfold validB at h4
 by_cases q6 : 1 ≤ dt ∧ dt ≤ 6
 ·rw [if_pos q6] at h4
  simp only [Bool.and_eq_true] at h4
  obtain ⟨⟨r1, r2⟩, r3⟩ := h4
  have r1 := of_decide_eq_true r1
  obtain rfl := zn9 r2
  obtain rfl := zn9 r3
  by_cases q1 : dt = 1
  ·subst q1
   have e1 : lowL 1 = 0 := by decide
   have e2 : highL 1 = 1 := by decide
   rw [e1, e2] at r1
   rcases (show i = 0 ∨ i = 1 by omega) with rfl | rfl
   ·refine (zz20 w).mono ?_
    rintro e w' ⟨rfl, x⟩
    exact ⟨_, rfl, C3.Sm.refl _, hok, x⟩
   ·refine (zy20 w).mono ?_
    rintro e w' ⟨rfl, x⟩
    exact ⟨_, rfl, C3.Sm.refl _, hok, x⟩
  ·refine (zv25 dt i (by omega) h1 r1 w).mono ?_
   rintro e w' ⟨rfl, x⟩
   exact ⟨_, rfl, C3.Sm.refl _, hok, x⟩
 ·rw [if_neg q6] at h4
  by_cases q7 : dt = 7
  ·subst q7
   rw [if_pos rfl] at h4
   simp only [Bool.and_eq_true, beq_iff_eq] at h4
   obtain ⟨⟨r1, r2⟩, r3⟩ := h4
   obtain rfl := zn9 r2
   subst r1
   refine (zy25 f h2 r3 w).mono ?_
   rintro e w' ⟨r, rfl, hr, x⟩
   refine ⟨(0, r, 0), rfl, ⟨rfl, ?_, za3 _⟩, ⟨h1, zh9 hr, h3, ?_⟩, x⟩
   ·rw [zm6 f r h2 hr]; exact r3
   ·show validB 7 0 r 0 = true
    have e1 : pzB 0 = true := by decide
    unfold validB
    rw [if_neg (by omega), if_pos rfl, e1, zd18 hr]
    rfl
  ·rw [if_neg q7] at h4
   by_cases q8 : dt = 8
   ·subst q8
    rw [if_pos rfl] at h4
    simp only [Bool.and_eq_true, beq_iff_eq] at h4
    obtain ⟨r1, r2⟩ := h4
    obtain rfl := zn9 r2
    subst r1
    refine (zk16 f h2 w).mono ?_
    rintro e w' ⟨rfl, x⟩
    exact ⟨_, rfl, C3.Sm.refl _, hok, x⟩
   ·rw [if_neg q8] at h4
    have q9 : dt = 9 := by omega
    subst q9
    rw [if_pos rfl, beq_iff_eq] at h4
    subst h4
    refine (zx25 f g h2 h3 w).mono ?_
    rintro e w' ⟨rfl, x⟩
    exact ⟨_, rfl, C3.Sm.refl _, hok, x⟩
structure PkI (w : World) (dt : Int) (X : List C3) (L : List Int) (c : Nat) (o : Value) (P : List C3) (W : World) : Prop where
 own : W.ownsRow w.heap.size 66 3 o c (flat P)
 len : P.length = c
 sm : ∀ j, j < c → C3.Sm (P.getD j k0) (X.getD (L.getD j 0).toNat k0) ∧ OkC dt (P.getD j k0)
 bl : Bel w W
theorem zc17 {w : World} {dt : Int} {sx : Option Addr} {cx gw cw : Nat} {X : List C3} {L : List Int} (hX : CV w (σ sx X.length cx) X) (hL : Row w gw 0 L) (hd : isDtB dt = true) (hin : ∀ j, j < L.length → 0 ≤ L.getD j 0 ∧ L.getD j 0 < X.length) (hok : ∀ j, j < X.length → OkC dt (X.getD j k0)) (h4 : L.length ≤ 4096) :
  Calls Tryz.prog 54 #[σ sx X.length cx, σ (some ⟨gw, 0, none⟩) L.length cw, O ι dt, O ι dt] w fun e w' => ∃ v P, e = .returned v ∧ PkI w dt X L L.length v P w' := by
 obtain ⟨i6, hi6, hx0, hx1, hx2⟩ := info_parts zx4
 have XA : Ext w (w.alloc (χ #[] 66)) := (Ext.refl w).alloc _ _
 have O0 : Hid (PkI w dt X L 0 (σ (some ⟨w.heap.size, 0, none⟩) 0 0) [] (w.alloc (χ #[] 66))) := ⟨World.ownsRow_made (base := w.heap.size) (e := 66) (size := 3) w #[] 0 (Nat.le_refl _) (by unfold maxLen; omega) (by simp), rfl, fun j hj => absurd hj (by omega), XA.bl⟩
 have HX := hide hX
 have HL := hide hL
 have Hin := hide hin
 have Hok := hide hok
 clear XA hX hL hin hok
 obtain ⟨n, Hn⟩ : ∃ n, Hid (L.length = n) := ⟨_, rfl⟩
 rw [Hn.out] at h4 Hin ⊢
 go_enter Tryz.func54, Tryz.ntmps54
 go_wp2_with fail
 generalize w.alloc (χ #[] 66) = WA at O0 ⊢
 go_loopw [9, 10] (fun o i wr => ∃ (c : Nat) (P : List C3) (ov : Value), ov = o ∧ i = O ι c ∧ c ≤ n ∧ PkI w dt X L c ov P wr) (fun _ i _ => n - (intOf i).toNat)
 case atStart => exact ⟨0, [], _, rfl, rfl, by omega, O0.out⟩
 case round =>
  obtain ⟨c, P, ov, rfl, rfl, hc, hI⟩ := hrel
  have HI := hide hI
  clear hI O0
  by_cases hlt : c < n
  ·have hdd : decide ((c : Int) < (n : Int)) = true := decide_eq_true (by omega)
   have hb := Hin.out c hlt
   have ql := Bel.box HI.out.bl (HL.out c (by rw [Hn.out]; exact hlt))
   rw [Nat.zero_add] at ql
   obtain ⟨p, hp⟩ : ∃ p : Nat, L.getD c 0 = (p : Int) := ⟨(L.getD c 0).toNat, by omega⟩
   rw [hp] at ql hb
   have hpX : p < X.length := by omega
   have Hp := hide hp
   obtain ⟨sx', cx', ex, hxr⟩ := HX.out
   injection ex with ex1 ex2 ex3
   subst ex1 ex3
   clear ex2
   obtain ⟨bx, ox, rfl, hxc⟩ := hxr.resolve_left (fun e => by rw [e] at hpX; simp at hpX)
   obtain ⟨t0, t1, t2⟩ := hxc p hpX
   have t0 := Bel.box HI.out.bl t0
   have t1 := Bel.box HI.out.bl t1
   have t2 := Bel.box HI.out.bl t2
   have hpk := Hok.out p hpX
   generalize hxv : X.getD p k0 = xv at t0 t1 t2 hpk
   have Hxv := hide hxv
   have HCV := hide (zw25 hpk hd wr)
   obtain ⟨xi, xf, xg⟩ := xv
   unfold cellV at HCV
   simp only at t0 t1 t2
   have hc0 : (0 : Int) ≤ (c : Int) := Int.natCast_nonneg _
   have hc1 : (c : Int) < (n : Int) := by omega
   have hp0 : (0 : Int) ≤ (p : Int) := Int.natCast_nonneg _
   have hp1 : (p : Int) < (X.length : Int) := by omega
   clear hxr hxc hxv hp hb
   go_wp2_with fail
   refine HCV.out.mono ?_
   intro e W2 hans
   obtain ⟨cc, rfl, hsm, hokc, x2⟩ := hans
   have HO2 := hide (zk3 HI.out.own x2.bl)
   have HB2 := hide (Bel.tr HI.out.bl x2.bl)
   have HSM := hide hsm
   have HOC := hide hokc
   obtain ⟨ci, cf, cg⟩ := cc
   unfold cellV
   clear x2 HCV hsm hokc t0 t1 t2 ql
   go_wp2_with (at_builtin; (refine wpList_append_lies _ rfl _ _ 61 rfl w.heap.size 66 i6 (γ #[O ι 0, .float .f64 0, .float .f64 0]) 3 24 Tryz.underlying61 hi6 hx0 hx1 hx2 rfl (by decide) ov c (flat P) rfl (HO2.out.alloc _) ⟨W2.heap.size, 0, none⟩ 1 1 [O ι ci, .float .f64 cf, .float .f64 cg] rfl rfl (fun j u hj => by rw [Addr.add_lit, Nat.zero_add, zd W2 _ 66 _ rfl j]; simpa using hj) (by simp [Value.oneCell']) (by omega) (by unfold maxLen; omega) (by omega) (by have := HB2.out.size; rw [World.size_alloc]; omega) (W2.heap.size + 1) (by simp) ?_); intro g5 cap5 w5 hown5 hgrow5 hat5 hlt5; have HO5 := hide hown5; have HG5 := hide hgrow5; clear hown5 hgrow5 hat5 hlt5)
   have HEND : Hid (PkI w dt X L (c + 1) (σ (some ⟨g5, 0, none⟩) (c + 1) cap5) (P ++ [(ci, cf, cg)]) w5) := by
    have hl := HI.out.len
    refine ⟨?_, by simp [hl], fun j hj => ?_, zv15 HB2.out (fun c hc => (HO2.out.lt c hc).1) HG5.out⟩
    ·rw [za10]; exact HO5.out
    ·rw [zy4, hl]
     by_cases e : j < c
     ·rw [if_pos e]; exact HI.out.sm j e
     ·have e2 : j = c := by omega
      rw [if_neg e, if_pos e2, e2, Hp.out, Int.toNat_natCast, Hxv.out]
      exact ⟨HSM.out, HOC.out⟩
   clear HO5 HG5 HO2 HB2 HSM HOC
   go_wp2_with fail
   go_roundw
   ·exact ⟨c + 1, _, _, rfl, by go_num, by omega, HEND.out⟩
   ·simp [intOf]; omega
  ·have hcc : c = n := by omega
   subst hcc
   have hdd : decide ((c : Int) < (c : Int)) = false := decide_eq_false (by omega)
   go_wp2
   go_ret
   exact ⟨_, P, rfl, HI.out⟩
def setC (w : World) (b o : Nat) (c : C3) : World := ((w.setCell ⟨b, o, none⟩ (O ι c.1)).setCell ⟨b, o + 1, none⟩ (.float .f64 c.2.1)).setCell ⟨b, o + 2, none⟩ (.float .f64 c.2.2)
theorem zg16 (w : World) (b o : Nat) (x : C3) (c : Nat) (h : c ≠ b) : (setC w b o x).heap[c]? = w.heap[c]? := (Below.heap_setCell _ _ _ _ h).trans ((Below.heap_setCell _ _ _ _ h).trans (Below.heap_setCell _ _ _ _ h))
theorem zp {w : World} {b o c q : Nat} {x : C3} {v : Value} (h : c ≠ b) (hc : w.cell? ⟨c, q, none⟩ = some v) : (setC w b o x).cell? ⟨c, q, none⟩ = some v := (World.cell?_of_block (w := w) (a := ⟨c, q, none⟩) (zg16 w b o x c h)).trans hc
theorem ze21 {w : World} {g n n' b L cp k : Nat} {fr to : Int} {xi : Int} {xf xg : Nat} {y : C3} {y0 y1 y2 : Value} (hk : k < L) (hcv : ∀ W, Calls Tryz.prog 125 #[O ι fr, O ι to, γ #[O ι xi, .float .f64 xf, .float .f64 xg]] W fun e W' => e = .returned (cellV y) ∧ Ext W W') (c0 : w.cell? ⟨b, k * 3, none⟩ = some y0) (c1 : w.cell? ⟨b, k * 3 + 1, none⟩ = some y1) (c2 : w.cell? ⟨b, k * 3 + 2, none⟩ = some y2) (hf : ∀ o, w.frozen? ⟨b, o, none⟩ = false) :
  Calls Tryz.prog 89 #[γ #[σ (some ⟨g, 0, none⟩) n n', σ (some ⟨b, 0, none⟩) L cp, O ι fr, O ι to], O ι k, γ #[O ι xi, .float .f64 xf, .float .f64 xg]] w fun e w' => e = .returned (.tuple #[]) ∧ ∃ w1, Ext w w1 ∧ w' = setC w1 b (k * 3) y := by
 obtain ⟨y0', y1', y2'⟩ := y
 unfold cellV at hcv
 have hbl := zj c0
 have xe : Ext w ((w.alloc (χ #[σ (some ⟨g, 0, none⟩) n n', σ (some ⟨b, 0, none⟩) L cp, O ι fr, O ι to] 148)).alloc (χ #[O ι xi, .float .f64 xf, .float .f64 xg] 66)) := ((Ext.refl w).alloc _ _).alloc _ _
 have xa : Ext (w.alloc (χ #[σ (some ⟨g, 0, none⟩) n n', σ (some ⟨b, 0, none⟩) L cp, O ι fr, O ι to] 148)) ((w.alloc (χ #[σ (some ⟨g, 0, none⟩) n n', σ (some ⟨b, 0, none⟩) L cp, O ι fr, O ι to] 148)).alloc (χ #[O ι xi, .float .f64 xf, .float .f64 xg] 66)) := (Ext.refl _).alloc _ _
 have n0 := fun j => zd w #[σ (some ⟨g, 0, none⟩) n n', σ (some ⟨b, 0, none⟩) L cp, O ι fr, O ι to] 148 w.heap.size rfl j
 have n1 := fun j => zd (w.alloc (χ #[σ (some ⟨g, 0, none⟩) n n', σ (some ⟨b, 0, none⟩) L cp, O ι fr, O ι to] 148)) #[O ι xi, .float .f64 xf, .float .f64 xg] 66 (w.heap.size + 1) (by simp) j
 have k1 := xa.box (n0 1)
 have k2 := xa.box (n0 2)
 have k3 := xa.box (n0 3)
 have m0 := n1 0
 have m1 := n1 1
 have m2 := n1 2
 simp only [List.getElem?_toArray, List.getElem?_cons_zero, List.getElem?_cons_succ] at k1 k2 k3 m0 m1 m2
 have X0 := hide xe
 have c0 := xe.box c0
 have c1 := xe.box c1
 have c2 := xe.box c2
 have hk0 : (0 : Int) ≤ (k : Int) := Int.natCast_nonneg _
 have hk1 : (k : Int) < (L : Int) := by omega
 clear n0 n1 xe xa
 go_enter Tryz.func89, Tryz.ntmps89
 go_wp2_with fail
 generalize ((w.alloc (χ #[σ (some ⟨g, 0, none⟩) n n', σ (some ⟨b, 0, none⟩) L cp, O ι fr, O ι to] 148)).alloc (χ #[O ι xi, .float .f64 xf, .float .f64 xg] 66)) = W1 at *
 have SA : Hid ((fun w' : World => w'.cell? ⟨w.heap.size, 1, none⟩ = some (σ (some ⟨b, 0, none⟩) L cp) ∧ w'.cell? ⟨w.heap.size, 2, none⟩ = some (O ι fr) ∧ w'.cell? ⟨w.heap.size, 3, none⟩ = some (O ι to) ∧ w'.cell? ⟨w.heap.size + 1, 0, none⟩ = some (O ι xi) ∧ w'.cell? ⟨w.heap.size + 1, 1, none⟩ = some (.float .f64 xf) ∧ w'.cell? ⟨w.heap.size + 1, 2, none⟩ = some (.float .f64 xg)) W1.drew) := ⟨k1, k2, k3, m0, m1, m2⟩
 have HCV := hide (hcv W1.drew)
 go_region_held3 (fun w' : World => w'.cell? ⟨w.heap.size, 1, none⟩ = some (σ (some ⟨b, 0, none⟩) L cp) ∧ w'.cell? ⟨w.heap.size, 2, none⟩ = some (O ι fr) ∧ w'.cell? ⟨w.heap.size, 3, none⟩ = some (O ι to) ∧ w'.cell? ⟨w.heap.size + 1, 0, none⟩ = some (O ι xi) ∧ w'.cell? ⟨w.heap.size + 1, 1, none⟩ = some (.float .f64 xf) ∧ w'.cell? ⟨w.heap.size + 1, 2, none⟩ = some (.float .f64 xg)) (first | with_reducible exact SA.out | exact SA.out | exact SB.out | exact SC.out) (first | (go_at_call 125; refine HCV.out.mono ?_; rintro e w2 ⟨rfl, x2⟩; have SB : Hid ((fun w' : World => w'.cell? ⟨w.heap.size, 1, none⟩ = some (σ (some ⟨b, 0, none⟩) L cp) ∧ w'.cell? ⟨w.heap.size, 2, none⟩ = some (O ι fr) ∧ w'.cell? ⟨w.heap.size, 3, none⟩ = some (O ι to) ∧ w'.cell? ⟨w.heap.size + 1, 0, none⟩ = some (O ι xi) ∧ w'.cell? ⟨w.heap.size + 1, 1, none⟩ = some (.float .f64 xf) ∧ w'.cell? ⟨w.heap.size + 1, 2, none⟩ = some (.float .f64 xg)) w2) := ⟨x2.box k1, x2.box k2, x2.box k3, x2.box m0, x2.box m1, x2.box m2⟩; have SC : Hid ((fun w' : World => w'.cell? ⟨w.heap.size, 1, none⟩ = some (σ (some ⟨b, 0, none⟩) L cp) ∧ w'.cell? ⟨w.heap.size, 2, none⟩ = some (O ι fr) ∧ w'.cell? ⟨w.heap.size, 3, none⟩ = some (O ι to) ∧ w'.cell? ⟨w.heap.size + 1, 0, none⟩ = some (O ι xi) ∧ w'.cell? ⟨w.heap.size + 1, 1, none⟩ = some (.float .f64 xf) ∧ w'.cell? ⟨w.heap.size + 1, 2, none⟩ = some (.float .f64 xg)) (setC w2 b (k * 3) (y0', y1', y2'))) := ⟨zp (by omega) (x2.box k1), zp (by omega) (x2.box k2), zp (by omega) (x2.box k3), zp (by omega) (x2.box m0), zp (by omega) (x2.box m1), zp (by omega) (x2.box m2)⟩; have d0 := x2.box c0; have d1 := x2.box c1; have d2 := x2.box c2; have fz := fun q => ((x2.fz _).trans (X0.out.fz _)).trans (hf q); have f0 := fz (k * 3); have f1 := fz (k * 3 + 1); have f2 := fz (k * 3 + 2); have X2 := hide (X0.out.drew.trans x2); clear x2 fz) | fail)
 go_wp2
 refine bodyPost_end (results_none rfl _ _ _) rfl ⟨rfl, ?_⟩
 exact ⟨w2, X2.out, rfl⟩
end
section
open Go.ChangeShapes Go.RowKit FL
theorem zt17 {w : World} {v : Value} {ss : List St} (h : SV w v ss) (hl : SL ss 1048576) (a a0 a1 a2 a3 b0 b1 b2 b3 off dt fr : Int) (m : Nat) (u : Value) (hm : m < ss.length) :
  Calls Tryz.prog 88 #[γ #[O ι a, O ι a0, O ι a1, O ι a2, O ι a3, O ι b0, O ι b1, O ι b2, O ι b3, O ι off, O ι m, O ι dt, u], γ #[v], O ι fr] w fun e w' => ∃ g cb sb cp, e = .returned (γ #[σ (some ⟨g, 0, none⟩) ss.length ss.length, σ sb (ss.getD m s0).2.length cp, O ι fr, O ι dt]) ∧ HOwn w' w.heap.size g cb ss ∧ Bel w w' ∧ w'.cell? ⟨g, m * 2 + 1, none⟩ = some (σ sb (ss.getD m s0).2.length cp) := by
 obtain ⟨sa, cap, rfl, hx⟩ := h
 have h : SV w (σ sa ss.length cap) ss := ⟨sa, cap, rfl, hx⟩
 have hl1 := hl.1
 have x0 : Ext w (((w.alloc (χ #[O ι a, O ι a0, O ι a1, O ι a2, O ι a3, O ι b0, O ι b1, O ι b2, O ι b3, O ι off, O ι m, O ι dt, u] 85)).alloc (χ #[σ sa ss.length cap] 34)).alloc (χ #[σ none 0 0, σ none 0 0, O ι 0, O ι 0] 148)) := (((Ext.refl w).alloc _ _).alloc _ _).alloc _ _
 have hs0 : ((((w.alloc (χ #[O ι a, O ι a0, O ι a1, O ι a2, O ι a3, O ι b0, O ι b1, O ι b2, O ι b3, O ι off, O ι m, O ι dt, u] 85)).alloc (χ #[σ sa ss.length cap] 34)).alloc (χ #[σ none 0 0, σ none 0 0, O ι 0, O ι 0] 148))).heap.size = w.heap.size + 3 := by simp
 have xa : Ext (w.alloc (χ #[O ι a, O ι a0, O ι a1, O ι a2, O ι a3, O ι b0, O ι b1, O ι b2, O ι b3, O ι off, O ι m, O ι dt, u] 85)) (((w.alloc (χ #[O ι a, O ι a0, O ι a1, O ι a2, O ι a3, O ι b0, O ι b1, O ι b2, O ι b3, O ι off, O ι m, O ι dt, u] 85)).alloc (χ #[σ sa ss.length cap] 34)).alloc (χ #[σ none 0 0, σ none 0 0, O ι 0, O ι 0] 148)) := ((Ext.refl _).alloc _ _).alloc _ _
 have k10 := xa.box (zd w #[O ι a, O ι a0, O ι a1, O ι a2, O ι a3, O ι b0, O ι b1, O ι b2, O ι b3, O ι off, O ι m, O ι dt, u] 85 w.heap.size rfl 10)
 have k11 := xa.box (zd w #[O ι a, O ι a0, O ι a1, O ι a2, O ι a3, O ι b0, O ι b1, O ι b2, O ι b3, O ι off, O ι m, O ι dt, u] 85 w.heap.size rfl 11)
 have nr := fun j => zd ((w.alloc (χ #[O ι a, O ι a0, O ι a1, O ι a2, O ι a3, O ι b0, O ι b1, O ι b2, O ι b3, O ι off, O ι m, O ι dt, u] 85)).alloc (χ #[σ sa ss.length cap] 34)) #[σ none 0 0, σ none 0 0, O ι 0, O ι 0] 148 (w.heap.size + 2) (by simp) j
 have r0 := nr 0
 have r1 := nr 1
 have r2 := nr 2
 have r3 := nr 3
 simp only [List.getElem?_toArray, List.getElem?_cons_zero, List.getElem?_cons_succ] at r0 r1 r2 r3 k10 k11
 have HCP := hide (zg12 (h.keep x0.bl) hl)
 have X0 := hide x0
 have HS0 := hide hs0
 clear hx h xa nr x0 hs0 hl
 go_enter Tryz.func88, Tryz.ntmps88
 go_wp2_with fail
 generalize (((w.alloc (χ #[O ι a, O ι a0, O ι a1, O ι a2, O ι a3, O ι b0, O ι b1, O ι b2, O ι b3, O ι off, O ι m, O ι dt, u] 85)).alloc (χ #[σ sa ss.length cap] 34)).alloc (χ #[σ none 0 0, σ none 0 0, O ι 0, O ι 0] 148)) = W0 at *
 refine HCP.out.mono ?_
 rintro e w2 ⟨g, cb, rfl, hO, hB⟩
 have hlg := hO.lo_g
 have hgl := hO.g_lt
 rw [HS0.out] at hlg
 have k10 := Bel.box hB k10
 have k11 := Bel.box hB k11
 have r0 := Bel.box hB r0
 have r1 := Bel.box hB r1
 have r2 := Bel.box hB r2
 have r3 := Bel.box hB r3
 obtain ⟨sb, cb', kc, kd⟩ := hO.sl m hm
 have fz := fun (q : Nat) => (Below.frozen hB (p := ⟨w.heap.size + 2, q, none⟩) (zj (Bel.box (Below.refl _ _) r0) |> fun _ => by rw [HS0.out]; show w.heap.size + 2 < _; omega)).trans (X0.out.unfrozen (by omega) q)
 have f0 := fz 0
 have f1 := fz 1
 have f2 := fz 2
 have f3 := fz 3
 have HO := hide hO
 have HB := hide (Bel.tr X0.out.bl hB)
 have hw2 := Below.size hB
 rw [HS0.out] at hw2
 clear HCP hO hB fz kd
 generalize hcs : (ss.getD m s0).2 = cs at kc ⊢
 have Hcs := hide hcs
 clear hcs
 have x3 : Ext w2 (w2.alloc (χ #[σ (some ⟨g, 0, none⟩) ss.length ss.length] 34)) := (Ext.refl _).alloc _ _
 have n3 := zd w2 #[σ (some ⟨g, 0, none⟩) ss.length ss.length] 34 w2.heap.size rfl 0
 have SA : Hid ((fun w' : World => w'.cell? ⟨w2.heap.size, 0, none⟩ = some (σ (some ⟨g, 0, none⟩) ss.length ss.length) ∧ w'.cell? ⟨w.heap.size, 10, none⟩ = some (O ι m) ∧ w'.cell? ⟨w.heap.size, 11, none⟩ = some (O ι dt) ∧ w'.cell? ⟨g, m * 2 + 1, none⟩ = some (σ sb cs.length cb')) (w2.alloc (χ #[σ (some ⟨g, 0, none⟩) ss.length ss.length] 34)).drew) := ⟨n3, x3.box k10, x3.box k11, x3.box kc⟩
 have r0 := x3.box r0
 have r1 := x3.box r1
 have r2 := x3.box r2
 have r3 := x3.box r3
 have f0 := (x3.fz _).trans f0
 have f1 := (x3.fz _).trans f1
 have f2 := (x3.fz _).trans f2
 have f3 := (x3.fz _).trans f3
 have X3 := hide x3
 have kg : w.heap.size + 2 ≠ g := by omega
 have hm0 : (0 : Int) ≤ (m : Int) := Int.natCast_nonneg _
 have hm1 : (m : Int) < (ss.length : Int) := by omega
 clear x3 n3 k10 k11 kc
 go_wp2_with fail
 generalize w2.alloc (χ #[σ (some ⟨g, 0, none⟩) ss.length ss.length] 34) = W3 at *
 refine zs2 (S := (fun w' : World => w'.cell? ⟨w2.heap.size, 0, none⟩ = some (σ (some ⟨g, 0, none⟩) ss.length ss.length) ∧ w'.cell? ⟨w.heap.size, 10, none⟩ = some (O ι m) ∧ w'.cell? ⟨w.heap.size, 11, none⟩ = some (O ι dt) ∧ w'.cell? ⟨g, m * 2 + 1, none⟩ = some (σ sb cs.length cb'))) (late := [12]) (by kernel_rfl) ?_
 refine zi (i := 0) (v := γ #[σ (some ⟨g, 0, none⟩) ss.length ss.length]) rfl (by kernel_rfl) (by kernel_rfl) (fun _ _ _ h => by cases h.1) _ (by kernel_rfl) (by kernel_rfl) (Or.inl ⟨by rfl, ?_⟩) SA.out ?_
 ·rintro w' ⟨z0, z1, z2, z3⟩
  go_simp
 simp only [aP, sT, sZ, sS]
 refine zi (i := 1) (v := π (some ⟨w2.heap.size, 0, none⟩)) rfl (by kernel_rfl) (by kernel_rfl) (fun _ _ _ h => by cases h.1) _ (by kernel_rfl) (by kernel_rfl) (Or.inl ⟨by rfl, ?_⟩) SA.out ?_
 ·rintro w' ⟨z0, z1, z2, z3⟩
  go_simp
 simp only [aP, sT, sZ, sS]
 refine zi (i := 2) (v := σ (some ⟨g, 0, none⟩) ss.length ss.length) rfl (by kernel_rfl) (by kernel_rfl) (fun _ _ _ h => by cases h.1) _ (by kernel_rfl) (by kernel_rfl) (Or.inl ⟨by rfl, ?_⟩) SA.out ?_
 ·rintro w' ⟨z0, z1, z2, z3⟩
  go_simp
 simp only [aP, sT, sZ, sS]
 refine zi (i := 3) (v := π (some ⟨w.heap.size, 10, none⟩)) rfl (by kernel_rfl) (by kernel_rfl) (fun _ _ _ h => by cases h.1) _ (by kernel_rfl) (by kernel_rfl) (Or.inl ⟨by rfl, ?_⟩) SA.out ?_
 ·rintro w' ⟨z0, z1, z2, z3⟩
  go_simp
 simp only [aP, sT, sZ, sS]
 refine zi (i := 4) (v := O ι m) rfl (by kernel_rfl) (by kernel_rfl) (fun _ _ _ h => by cases h.1) _ (by kernel_rfl) (by kernel_rfl) (Or.inl ⟨by rfl, ?_⟩) SA.out ?_
 ·rintro w' ⟨z0, z1, z2, z3⟩
  go_simp
 simp only [aP, sT, sZ, sS]
 refine zi (i := 5) (v := π (some ⟨g, m * 2, none⟩)) rfl (by kernel_rfl) (by kernel_rfl) (fun _ _ _ h => by cases h.1) _ (by kernel_rfl) (by kernel_rfl) (Or.inl ⟨by rfl, ?_⟩) SA.out ?_
 ·rintro w' ⟨z0, z1, z2, z3⟩
  go_simp
 simp only [aP, sT, sZ, sS]
 refine zi (i := 6) (v := π (some ⟨g, m * 2 + 1, none⟩)) rfl (by kernel_rfl) (by kernel_rfl) (fun _ _ _ h => by cases h.1) _ (by kernel_rfl) (by kernel_rfl) (Or.inl ⟨by rfl, ?_⟩) SA.out ?_
 ·rintro w' ⟨z0, z1, z2, z3⟩
  go_simp
 simp only [aP, sT, sZ, sS]
 refine zi (i := 7) (v := σ sb cs.length cb') rfl (by kernel_rfl) (by kernel_rfl) (fun _ _ _ h => by cases h.1) _ (by kernel_rfl) (by kernel_rfl) (Or.inl ⟨by rfl, ?_⟩) SA.out ?_
 ·rintro w' ⟨z0, z1, z2, z3⟩
  go_simp
 simp only [aP, sT, sZ, sS]
 refine zi (i := 8) (v := O ι fr) rfl (by kernel_rfl) (by kernel_rfl) (fun _ _ _ h => by cases h.1) _ (by kernel_rfl) (by kernel_rfl) (Or.inl ⟨by rfl, ?_⟩) SA.out ?_
 ·rintro w' ⟨z0, z1, z2, z3⟩
  go_simp
 simp only [aP, sT, sZ, sS]
 refine zi (i := 9) (v := π (some ⟨w.heap.size, 11, none⟩)) rfl (by kernel_rfl) (by kernel_rfl) (fun _ _ _ h => by cases h.1) _ (by kernel_rfl) (by kernel_rfl) (Or.inl ⟨by rfl, ?_⟩) SA.out ?_
 ·rintro w' ⟨z0, z1, z2, z3⟩
  go_simp
 simp only [aP, sT, sZ, sS]
 refine zi (i := 10) (v := O ι dt) rfl (by kernel_rfl) (by kernel_rfl) (fun _ _ _ h => by cases h.1) _ (by kernel_rfl) (by kernel_rfl) (Or.inl ⟨by rfl, ?_⟩) SA.out ?_
 ·rintro w' ⟨z0, z1, z2, z3⟩
  go_simp
 simp only [aP, sT, sZ, sS]
 refine zi (i := 11) (v := γ #[σ (some ⟨g, 0, none⟩) ss.length ss.length, σ sb cs.length cb', O ι fr, O ι dt]) rfl (by kernel_rfl) (by kernel_rfl) (fun _ _ _ h => by cases h.1) _ (by kernel_rfl) (by kernel_rfl) (Or.inl ⟨by rfl, ?_⟩) SA.out ?_
 ·rintro w' ⟨z0, z1, z2, z3⟩
  go_simp
 simp only [aP, sT, sZ, sS]
 refine ze (i := 12) (by kernel_rfl) rfl (fun K hK => ?_)
 go_simp
 refine hK.out _ _ (fun h => absurd h (by decide)) ?_
 clear hK K
 try simp only [aP, sT, sZ, sS]
 refine zg (by kernel_rfl) ?_ _
 refine ⟨rfl, ?_⟩
 go_wp2_with fail
 have hb8 : ∀ b, b ≠ w.heap.size + 2 → ((((W3.setCell ⟨w.heap.size + 2, 0, none⟩ (σ (some ⟨g, 0, none⟩) ss.length ss.length)).setCell ⟨w.heap.size + 2, 1, none⟩ (σ sb cs.length cb')).setCell ⟨w.heap.size + 2, 2, none⟩ (O ι fr)).setCell ⟨w.heap.size + 2, 3, none⟩ (O ι dt)).heap[b]? = W3.heap[b]? := fun b hb => (Below.heap_setCell _ _ _ _ hb).trans ((Below.heap_setCell _ _ _ _ hb).trans ((Below.heap_setCell _ _ _ _ hb).trans (Below.heap_setCell _ _ _ _ hb)))
 refine bodyPost_ret (v := γ #[σ (some ⟨g, 0, none⟩) ss.length ss.length, σ sb cs.length cb', O ι fr, O ι dt]) (by simp [results, Tryz.results88, go_sem, r0, r1, r2, r3]) rfl ⟨g, cb, sb, cb', by rw [Hcs.out], ?_, ?_, ?_⟩
 ·refine (HOwn.keep HO.out (fun b hb hlt => ?_) ?_).lower (by rw [HS0.out]; omega)
  ·exact (hb8 b (by rw [HS0.out] at hb; omega)).trans (X3.out.bl.block b hlt)
  ·have := X3.out.bl.size
   simpa [World.setCell] using this
 ·have hp : ∀ q, w.heap.size ≤ (⟨w.heap.size + 1 + 1, q, none⟩ : Addr).block := fun q => by show _ ≤ w.heap.size + 1 + 1; omega
  exact (((((Bel.tr HB.out X3.out.bl).setCell (hp 0) _).setCell (hp 1) _).setCell (hp 2) _).setCell (hp 3) _).drew
 ·rw [Hcs.out]
  exact (World.cell?_of_block (w := W3) (a := ⟨g, m * 2 + 1, none⟩) (hb8 g (Ne.symm kg))).trans SA.out.2.2.2
end
section
open Go.ChangeShapes Go.RowKit Go.Shelf FL
attribute [local go_sem] Oper.semAt_some
theorem zn18 (cs : List C3) (L : List Int) (X : List C3) (p : Int) : putC cs (L ++ [p]) X (L.length + 1) = (putC cs L X L.length).set p.toNat (X.getD L.length k0) := by
 rw [putC, zh5 cs (L' := L) (X' := X) (fun i hi => by simp [List.getD_eq_getElem?_getD, List.getElem?_append_left hi]) (fun _ _ => rfl)]
 simp [List.getD_eq_getElem?_getD]
theorem HOwn.putc {w w1 : World} {lo g m p j : Nat} {x : C3} {cb : Nat → Nat} {ss : List St} {L : List Int} {X : List C3} (h : HOwn w lo g cb (putT ss m L X j)) (hm : m < ss.length) (hp : p < (ss.getD m s0).2.length) (hL : L.length = j) (x1 : Ext w w1) (hx : x = X.getD j k0) :
  HOwn (setC w1 (cb m) (p * 3) x) lo g cb (putT ss m (L ++ [(p : Int)]) X (j + 1)) := by
 have h1 : HOwn w1 lo g cb (putT ss m L X j) := h.keep (fun b _ hb => x1.bl.block b hb) x1.bl.size
 clear h x1
 have hne : (ss.getD m s0).2 ≠ [] := fun e => by rw [e] at hp; simp at hp
 have hmm : (putT ss m L X j).getD m s0 = ((ss.getD m s0).1, putC (ss.getD m s0).2 L X j) := by unfold putT; rw [zq2, if_pos ⟨rfl, hm⟩]
 have hmn : (putT ss m (L ++ [(p : Int)]) X (j + 1)).getD m s0 = ((ss.getD m s0).1, (putC (ss.getD m s0).2 L X j).set p x) := by
  unfold putT
  rw [zq2, if_pos ⟨rfl, hm⟩, ← hL, zn18, hx, hL, Int.toNat_natCast]
 have hnm : ∀ i, i ≠ m → (putT ss m (L ++ [(p : Int)]) X (j + 1)).getD i s0 = (putT ss m L X j).getD i s0 := fun i hi => ((zc1 ss m _ X (j + 1) i).2.2 hi).trans ((zc1 ss m L X j i).2.2 hi).symm
 have hnil : ∀ i, ((putT ss m (L ++ [(p : Int)]) X (j + 1)).getD i s0).2 ≠ [] ↔ ((putT ss m L X j).getD i s0).2 ≠ [] := fun i => by
  rw [ne_eq, ne_eq, zh1, zh1, (zc1 ss m _ X (j + 1) i).2.1, (zc1 ss m L X j i).2.1]
 have hlen : ∀ i, ((putT ss m (L ++ [(p : Int)]) X (j + 1)).getD i s0).2.length = ((putT ss m L X j).getD i s0).2.length := fun i => by rw [(zc1 ss m _ X (j + 1) i).2.1, (zc1 ss m L X j i).2.1]
 have hnem : ((putT ss m L X j).getD m s0).2 ≠ [] := fun e => hne (by rw [zh1] at e ⊢; rw [← (zc1 ss m L X j m).2.1]; exact e)
 have hml : m < (putT ss m L X j).length := by rw [zo]; exact hm
 have hgm := h1.g_cb m hml hnem
 have hcb : ∀ i, i < ss.length → ((putT ss m L X j).getD i s0).2 ≠ [] → i ≠ m → cb i ≠ cb m := fun i hi hi2 him e => by
  rcases Nat.lt_or_gt_of_ne him with q | q
  ·have := h1.inc i m q hml hi2 hnem; omega
  ·have := h1.inc m i q (by rw [zo]; exact hi) hnem hi2; omega
 refine ⟨fun i hi => ?_, fun i hi => ?_, fun i hi hne2 => ?_, fun o => ?_, fun i hi hne2 o => ?_, h1.lo_g, ?_, fun i hi hne2 => ?_, fun i i' hii hi' hn1 hn2 => ?_⟩
 ·rw [zo] at hi
  rw [(zc1 ss m _ X (j + 1) i).1, ← (zc1 ss m L X j i).1]
  exact zp (by omega) (h1.dt i (by rw [zo]; exact hi))
 ·rw [zo] at hi
  obtain ⟨sa, cap, q1, q2⟩ := h1.sl i (by rw [zo]; exact hi)
  refine ⟨sa, cap, ?_, ?_⟩
  ·rw [hlen]; exact zp (by omega) q1
  ·rcases q2 with q2 | q2
   ·exact Or.inl (by rw [zh1, hlen]; rw [zh1] at q2; exact q2)
   ·exact Or.inr q2
 ·rw [zo] at hi
  rw [hnil] at hne2
  have hr := h1.row i (by rw [zo]; exact hi) hne2
  by_cases e : i = m
  ·subst e
   rw [hmn]
   rw [hmm] at hr
   have q := hr.set p (by rw [zm1]; exact hp) x
   simp only [Nat.zero_add] at q
   exact q
  ·rw [hnm i e]
   have hc := hcb i hi hne2 e
   exact fun z hz => ⟨zp hc (hr z hz).1, zp hc (hr z hz).2.1, zp hc (hr z hz).2.2⟩
 ·unfold setC; rw [World.frozen?_setCell, World.frozen?_setCell, World.frozen?_setCell]; exact h1.fz o
 ·rw [zo] at hi
  rw [hnil] at hne2
  unfold setC; rw [World.frozen?_setCell, World.frozen?_setCell, World.frozen?_setCell]
  exact h1.fzr i (by rw [zo]; exact hi) hne2 o
 ·have := h1.g_lt; simpa [setC, World.setCell] using this
 ·rw [zo] at hi
  rw [hnil] at hne2
  exact h1.g_cb i (by rw [zo]; exact hi) hne2
 ·rw [zo] at hi'
  rw [hnil] at hn1 hn2
  exact h1.inc i i' hii (by rw [zo]; exact hi') hn1 hn2
theorem zx12 (W : World) (b o : Nat) (x : C3) : KeepsOthers W (setC W b o x) := ((KeepsOthers.setCell _ _ _).trans (KeepsOthers.setCell _ _ _)).trans (KeepsOthers.setCell _ _ _)
theorem zi23 (W : World) {n b : Nat} (hb : b < n) (o : Nat) (x : C3) : KC n W (setC W b o x) := ((KC.setCell W (p := ⟨b, o, none⟩) hb _).trans (KC.setCell _ (p := ⟨b, o + 1, none⟩) hb _)).trans (KC.setCell _ (p := ⟨b, o + 2, none⟩) hb _)
theorem zi8 {lo : Nat} {A W : World} (h : Below lo A W) {b : Nat} (hb : lo ≤ b) (o : Nat) (x : C3) : Below lo A (setC W b o x) := ((h.setCell (p := ⟨b, o, none⟩) hb _).setCell (p := ⟨b, o + 1, none⟩) hb _).setCell (p := ⟨b, o + 2, none⟩) hb _
theorem zy12 (W : World) (b o : Nat) (x : C3) (a : Addr) : (setC W b o x).frozen? a = W.frozen? a := by unfold setC; rw [World.frozen?_setCell, World.frozen?_setCell, World.frozen?_setCell]
structure HwI2 (W4 w2 : World) (g : Nat) (cb : Nat → Nat) (ss : List St) (m : Nat) (X : List C3) (sb : Option Addr) (cl cp : Nat) (fr to : Int) (L : List Int) (W : World) : Prop where
 own : HOwn W W4.heap.size g cb (putT ss m L X L.length)
 d0 : W.cell? ⟨w2.heap.size, 0, none⟩ = some (σ (some ⟨g, 0, none⟩) ss.length ss.length)
 d1 : W.cell? ⟨w2.heap.size, 1, none⟩ = some (σ sb cl cp)
 d2 : W.cell? ⟨w2.heap.size, 2, none⟩ = some (O ι fr)
 d3 : W.cell? ⟨w2.heap.size, 3, none⟩ = some (O ι to)
 ni : W.cell? ⟨w2.heap.size + 1, 0, none⟩ = some (O ι L.length)
 nf : W.frozen? ⟨w2.heap.size + 1, 0, none⟩ = false
theorem HwI2.kept {W4 w2 : World} {g : Nat} {cb : Nat → Nat} {ss : List St} {m : Nat} {X : List C3} {sb : Option Addr} {cl cp : Nat} {fr to : Int} {L : List Int} {A B : World} {row : Option Nat} (h : HwI2 W4 w2 g cb ss m X sb cl cp fr to L A) (h0 : 0 < ss.length) (hg : A.grownBy B row) (hr : ∀ r, row = some r → ∃ o : Obj, A.heap[r]? = some o ∧ o.isCells = false) : HwI2 W4 w2 g cb ss m X sb cl cp fr to L B :=
 ⟨h.own.kept (by rw [zo]; exact h0) hg hr, cell_kept h.d0 hg hr, cell_kept h.d1 hg hr, cell_kept h.d2 hg hr, cell_kept h.d3 hg hr, cell_kept h.ni hg hr, (frozen_kept h.ni hg hr).trans h.nf⟩
theorem zs11 (n : Nat) (hn : 3 ≤ n) (xs sv : List Int) (off : Int) (m : Nat) (u : Value) {w : World} {v : Value} {ss : List St} {sx : Option Addr} {cx : Nat} {X Y : List C3} {fr to : Int} (h : SV w v ss) (hl : SL ss 1048576) (hm : m < ss.length) (hv : ValidV xs sv off) (hin : ∀ p ∈ offsL xs sv off, p < ((ss.getD m s0).2.length : Int))
  (hX : CV w (σ sx X.length cx) X) (hcv : ∀ j, j < X.length → ∀ W, Calls Tryz.prog 125 #[O ι fr, O ι to, cellV (X.getD j k0)] W fun e W' => e = .returned (cellV (Y.getD j k0)) ∧ Ext W W') (hXl : (offsL xs sv off).length ≤ X.length) (hX4 : X.length ≤ 4096) :
  CallsIn Fence.wide n Tryz.prog 44 #[γ #[O ι xs.length, O ι (xs.getD 0 0), O ι (xs.getD 1 0), O ι (xs.getD 2 0), O ι (xs.getD 3 0), O ι (sv.getD 0 0), O ι (sv.getD 1 0), O ι (sv.getD 2 0), O ι (sv.getD 3 0), O ι off, O ι m, O ι to, u], γ #[v], O ι fr, σ sx X.length cx] w fun e w' => ∃ g cb, e = .returned (γ #[σ (some ⟨g, 0, none⟩) ss.length ss.length]) ∧ HOwn w' w.heap.size g cb (putT ss m (offsL xs sv off) Y (offsL xs sv off).length) ∧ Bel w w' := by
 have hdd : ∀ k : Nat, (Fence.wide.depth.isSome = true → 1 ≤ k) := fun k h => by cases h
 obtain ⟨sa, cap, rfl, hsx⟩ := h
 have h : SV w (σ sa ss.length cap) ss := ⟨sa, cap, rfl, hsx⟩
 have hpl := hide (fun n W => zi5 n xs sv off W)
 have hst := hide (fun n Bf W hB => zh15 ((ss.getD m s0).2.length : Int) n Bf xs sv off hv.1.1 hv.2.1 hv.1.2.1 hv.1.2.2 hv.2.2.2.1 hv.2.2.1 (fun x hx => ⟨(zq3 hv x hx).1, hin x hx⟩) W hB)
 clear hv hin hsx
 obtain ⟨cs, hcs⟩ : ∃ cs, cs = (ss.getD m s0).2 := ⟨_, rfl⟩
 rw [← hcs] at hst
 have Hcs := hide hcs
 clear hcs
 unfold vw at hpl hst
 generalize hOL : offsL xs sv off = OL at hst hXl ⊢
 have HOL := hide hOL
 clear hOL
 generalize xs.getD 0 0 = a0 at *
 generalize xs.getD 1 0 = a1 at *
 generalize xs.getD 2 0 = a2 at *
 generalize xs.getD 3 0 = a3 at *
 generalize sv.getD 0 0 = s0' at *
 generalize sv.getD 1 0 = s1 at *
 generalize sv.getD 2 0 = s2 at *
 generalize sv.getD 3 0 = s3 at *
 have x0 : Ext w ((((w.alloc (χ #[O ι xs.length, O ι a0, O ι a1, O ι a2, O ι a3, O ι s0', O ι s1, O ι s2, O ι s3, O ι off, O ι m, O ι to, u] 85)).alloc (χ #[σ sa ss.length cap] 34)).alloc (χ #[σ sx X.length cx] 61)).alloc (χ #[σ none 0 0] 34)) := ((((Ext.refl w).alloc _ _).alloc _ _).alloc _ _).alloc _ _
 have hs4 : (((((w.alloc (χ #[O ι xs.length, O ι a0, O ι a1, O ι a2, O ι a3, O ι s0', O ι s1, O ι s2, O ι s3, O ι off, O ι m, O ι to, u] 85)).alloc (χ #[σ sa ss.length cap] 34)).alloc (χ #[σ sx X.length cx] 61)).alloc (χ #[σ none 0 0] 34))).heap.size = w.heap.size + 4 := by simp
 have x1 : Ext (w.alloc (χ #[O ι xs.length, O ι a0, O ι a1, O ι a2, O ι a3, O ι s0', O ι s1, O ι s2, O ι s3, O ι off, O ι m, O ι to, u] 85)) ((((w.alloc (χ #[O ι xs.length, O ι a0, O ι a1, O ι a2, O ι a3, O ι s0', O ι s1, O ι s2, O ι s3, O ι off, O ι m, O ι to, u] 85)).alloc (χ #[σ sa ss.length cap] 34)).alloc (χ #[σ sx X.length cx] 61)).alloc (χ #[σ none 0 0] 34)) := (((Ext.refl _).alloc _ _).alloc _ _).alloc _ _
 have x3 : Ext (((w.alloc (χ #[O ι xs.length, O ι a0, O ι a1, O ι a2, O ι a3, O ι s0', O ι s1, O ι s2, O ι s3, O ι off, O ι m, O ι to, u] 85)).alloc (χ #[σ sa ss.length cap] 34)).alloc (χ #[σ sx X.length cx] 61)) ((((w.alloc (χ #[O ι xs.length, O ι a0, O ι a1, O ι a2, O ι a3, O ι s0', O ι s1, O ι s2, O ι s3, O ι off, O ι m, O ι to, u] 85)).alloc (χ #[σ sa ss.length cap] 34)).alloc (χ #[σ sx X.length cx] 61)).alloc (χ #[σ none 0 0] 34)) := (Ext.refl _).alloc _ _
 have KA : Hid (∀ j, j < 13 → (((((w.alloc (χ #[O ι xs.length, O ι a0, O ι a1, O ι a2, O ι a3, O ι s0', O ι s1, O ι s2, O ι s3, O ι off, O ι m, O ι to, u] 85)).alloc (χ #[σ sa ss.length cap] 34)).alloc (χ #[σ sx X.length cx] 61)).alloc (χ #[σ none 0 0] 34))).cell? ⟨w.heap.size, j, none⟩ = #[O ι xs.length, O ι a0, O ι a1, O ι a2, O ι a3, O ι s0', O ι s1, O ι s2, O ι s3, O ι off, O ι m, O ι to, u][j]?) := fun j hj => by
  have q := zd w #[O ι xs.length, O ι a0, O ι a1, O ι a2, O ι a3, O ι s0', O ι s1, O ι s2, O ι s3, O ι off, O ι m, O ι to, u] 85 w.heap.size rfl j
  rw [← q]
  exact (x1.bl.cell (p := ⟨w.heap.size, j, none⟩) (by show w.heap.size < _; simp))
 have KX := hide (x3.box (zd ((w.alloc (χ #[O ι xs.length, O ι a0, O ι a1, O ι a2, O ι a3, O ι s0', O ι s1, O ι s2, O ι s3, O ι off, O ι m, O ι to, u] 85)).alloc (χ #[σ sa ss.length cap] 34)) #[σ sx X.length cx] 61 (w.heap.size + 2) (by simp) 0))
 have KR := hide (zd (((w.alloc (χ #[O ι xs.length, O ι a0, O ι a1, O ι a2, O ι a3, O ι s0', O ι s1, O ι s2, O ι s3, O ι off, O ι m, O ι to, u] 85)).alloc (χ #[σ sa ss.length cap] 34)).alloc (χ #[σ sx X.length cx] 61)) #[σ none 0 0] 34 (w.heap.size + 3) (by simp) 0)
 have FR : Hid ((((((w.alloc (χ #[O ι xs.length, O ι a0, O ι a1, O ι a2, O ι a3, O ι s0', O ι s1, O ι s2, O ι s3, O ι off, O ι m, O ι to, u] 85)).alloc (χ #[σ sa ss.length cap] 34)).alloc (χ #[σ sx X.length cx] 61)).alloc (χ #[σ none 0 0] 34))).frozen? ⟨w.heap.size + 3, 0, none⟩ = false) := x0.unfrozen (by omega) 0
 have X0 := hide x0
 have HS4 := hide hs4
 have HDR := hide (zt17 (h.keep x0.bl) hl xs.length a0 a1 a2 a3 s0' s1 s2 s3 off to fr m u hm)
 have HX := hide hX
 clear x0 hs4 x1 x3 hX h
 refine callsIn_of_wp_marks Tryz.func44 rfl trivial ?_ rfl
 simp only [Tryz.ntmps44, List.size_toArray, List.length_cons, List.length_nil, Nat.reduceAdd, Nat.reduceSub, Array.replicate_succ, Array.replicate_zero, List.push_toArray, List.append_toArray, List.nil_append, List.cons_append]
 gi_wp2
 refine ⟨trivial, hdd _, ?_⟩
 generalize hW4 : ((((w.alloc (χ #[O ι xs.length, O ι a0, O ι a1, O ι a2, O ι a3, O ι s0', O ι s1, O ι s2, O ι s3, O ι off, O ι m, O ι to, u] 85)).alloc (χ #[σ sa ss.length cap] 34)).alloc (χ #[σ sx X.length cx] 61)).alloc (χ #[σ none 0 0] 34)) = W4 at *
 refine (callsIn_wide.2 HDR.out).mono ?_
 rintro e w2 ⟨g, cb, sb, cp, rfl, hO, hB, hcg⟩
 rw [← Hcs.out] at hcg ⊢
 have ka : ∀ j x, j < 13 → #[O ι xs.length, O ι a0, O ι a1, O ι a2, O ι a3, O ι s0', O ι s1, O ι s2, O ι s3, O ι off, O ι m, O ι to, u][j]? = some x → w2.cell? ⟨w.heap.size, j, none⟩ = some x := fun j x hj hx => Bel.box hB ((KA.out j hj).trans hx)
 have ka0 := ka 0 _ (by omega) rfl
 have ka1 := ka 1 _ (by omega) rfl
 have ka2 := ka 2 _ (by omega) rfl
 have ka3 := ka 3 _ (by omega) rfl
 have ka4 := ka 4 _ (by omega) rfl
 have ka5 := ka 5 _ (by omega) rfl
 have ka6 := ka 6 _ (by omega) rfl
 have ka7 := ka 7 _ (by omega) rfl
 have ka8 := ka 8 _ (by omega) rfl
 have ka9 := ka 9 _ (by omega) rfl
 have KX2 := hide (Bel.box hB KX.out)
 have KR2 := hide (Bel.box hB KR.out)
 have FR2 := hide ((Below.frozen hB (p := ⟨w.heap.size + 3, 0, none⟩) (by rw [HS4.out]; show w.heap.size + 3 < _; omega)).trans FR.out)
 have HB2 := hide (Bel.tr X0.out.bl hB)
 have HO2 := hide hO
 have HCG := hide hcg
 have hs2 : W4.heap.size ≤ w2.heap.size := hB.size
 rw [HS4.out] at hs2
 have x6 : Ext w2 ((w2.alloc (χ #[σ (some ⟨g, 0, none⟩) ss.length ss.length, σ sb cs.length cp, O ι fr, O ι to] 148)).alloc (χ #[O ι 0] 3)) := ((Ext.refl w2).alloc _ _).alloc _ _
 have x5 : Ext (w2.alloc (χ #[σ (some ⟨g, 0, none⟩) ss.length ss.length, σ sb cs.length cp, O ι fr, O ι to] 148)) ((w2.alloc (χ #[σ (some ⟨g, 0, none⟩) ss.length ss.length, σ sb cs.length cp, O ι fr, O ι to] 148)).alloc (χ #[O ι 0] 3)) := (Ext.refl _).alloc _ _
 have ka0 := x6.box ka0
 have ka1 := x6.box ka1
 have ka2 := x6.box ka2
 have ka3 := x6.box ka3
 have ka4 := x6.box ka4
 have ka5 := x6.box ka5
 have ka6 := x6.box ka6
 have ka7 := x6.box ka7
 have ka8 := x6.box ka8
 have ka9 := x6.box ka9
 have nd := fun j => zd w2 #[σ (some ⟨g, 0, none⟩) ss.length ss.length, σ sb cs.length cp, O ι fr, O ι to] 148 w2.heap.size rfl j
 have ND0 := hide (x5.box (nd 0))
 have ND1 := hide (x5.box (nd 1))
 have ND2 := hide (x5.box (nd 2))
 have ND3 := hide (x5.box (nd 3))
 have NI := hide (zd (w2.alloc (χ #[σ (some ⟨g, 0, none⟩) ss.length ss.length, σ sb cs.length cp, O ι fr, O ι to] 148)) #[O ι 0] 3 (w2.heap.size + 1) (by simp) 0)
 have X6 := hide x6
 have hs6 : ((w2.alloc (χ #[σ (some ⟨g, 0, none⟩) ss.length ss.length, σ sb cs.length cp, O ι fr, O ι to] 148)).alloc (χ #[O ι 0] 3)).heap.size = w2.heap.size + 2 := by simp
 have HBW := hide hB
 clear ka KA hO hB hcg HDR x6 x5 nd KX2 KR2 FR2
 gi_wp2
 generalize ((w2.alloc (χ #[σ (some ⟨g, 0, none⟩) ss.length ss.length, σ sb cs.length cp, O ι fr, O ι to] 148)).alloc (χ #[O ι 0] 3)) = W6 at *
 refine ⟨trivial, hdd _, ?_⟩
 refine (hpl.out _ _).mono ?_
 rintro e w' ⟨rfl, rfl⟩
 clear hpl
 have h1 : 1 ≤ n := by omega
 gi_wp2
 have hst2 := hide (hst.out (n - 1) (w2.heap.size + 2) W6 (by rw [hs6]))
 have XV : Ext W6 (W6.alloc (χ #[O ι xs.length, O ι a0, O ι a1, O ι a2, O ι a3, O ι s0', O ι s1, O ι s2, O ι s3, O ι off] 83)) := (Ext.refl W6).alloc _ _
 have I0 : Hid (HwI2 W4 w2 g cb ss m Y sb cs.length cp fr to [] (W6.alloc (χ #[O ι xs.length, O ι a0, O ι a1, O ι a2, O ι a3, O ι s0', O ι s1, O ι s2, O ι s3, O ι off] 83))) := by
  have e : putT ss m [] Y 0 = ss := by
   unfold putT
   show ss.set m ((ss.getD m s0).1, (ss.getD m s0).2) = ss
   rw [List.getD_eq_getElem?_getD, List.getElem?_eq_getElem hm]
   exact List.set_getElem_self hm
  refine ⟨?_, XV.box ND0.out, XV.box ND1.out, XV.box ND2.out, XV.box ND3.out, XV.box NI.out, ((X6.out.trans XV).unfrozen (by omega) 0)⟩
  show HOwn _ _ _ _ (putT ss m [] Y 0)
  rw [e]
  exact HO2.out.keep (fun b _ hb => (X6.out.trans XV).bl.block b hb) (X6.out.trans XV).bl.size
 have B0 : Hid (Below W4.heap.size W4 (W6.alloc (χ #[O ι xs.length, O ι a0, O ι a1, O ι a2, O ι a3, O ι s0', O ι s1, O ι s2, O ι s3, O ι off] 83))) := Bel.tr HBW.out (X6.out.trans XV).bl
 have hsV : (W6.alloc (χ #[O ι xs.length, O ι a0, O ι a1, O ι a2, O ι a3, O ι s0', O ι s1, O ι s2, O ι s3, O ι off] 83)).heap.size = w2.heap.size + 3 := by rw [World.size_alloc, hs6]
 have hsl : Hid (cs = [] ∨ sb = some ⟨cb m, 0, none⟩) := by
  obtain ⟨sa', cap', q1, q2⟩ := HO2.out.sl m hm
  have q3 := HCG.out.symm.trans q1
  injection q3 with q3
  injection q3 with q3 q4 q5
  rw [q3, Hcs.out]; exact q2
 have hcball : Hid (∀ j, j < ss.length → (ss.getD j s0).2 ≠ [] → cb j < w2.heap.size) := fun j hj hne => zj (HO2.out.row j hj hne 0 (List.length_pos_iff.2 hne)).1
 have hgw2 : Hid (g < w2.heap.size) := HO2.out.g_lt
 clear XV hst ka0 ka1 ka2 ka3 ka4 ka5 ka6 ka7 ka8 ka9 ND0 ND1 ND2 ND3 NI
 have h0s : 0 < ss.length := by omega
 have hw4 := HS4.out
 generalize hWV : (W6.alloc (χ #[O ι xs.length, O ι a0, O ι a1, O ι a2, O ι a3, O ι s0', O ι s1, O ι s2, O ι s3, O ι off] 83)) = WV at *
 clear hWV
 refine wpIn_rangeFunc_ownF rfl h1 (gf := 119) (lb := #[π (some ⟨w2.heap.size + 2, 0, none⟩)]) rfl trivial (enters_of Tryz.func119 (by kernel_rfl) rfl)
  hst2.out (fun h k => KC.trans h k) (fun W l o o' h1 h2 h3 h4 => zo19 W l o o' h1 h2 h3 h4) (Below.refl _ _) (fun _ => rfl)
  (fun pre W => HwI2 W4 w2 g cb ss m Y sb cs.length cp fr to (pnv pre) W ∧ Below W4.heap.size W4 W)
  (fun _ _ _ => False)
  (OwnFrom.and (Own.from (fun (s : List (PlN (cs.length : Int))) A B row hs hg hr => (HwI2.kept (L := pnv s) hs h0s hg hr : HwI2 W4 w2 g cb ss m Y sb cs.length cp fr to (pnv s) B)) _) (ownFrom_below (Nat.le_refl _) (by omega)))
  (fun _ _ _ _ _ hs _ _ => hs)
  ⟨I0.out, B0.out⟩
  (fun x => { tmps := #[γ #[O ι xs.length, O ι a0, O ι a1, O ι a2, O ι a3, O ι s0', O ι s1, O ι s2, O ι s3, O ι off, O ι m, O ι to, u], γ #[σ sa ss.length cap], O ι fr, σ sx X.length cx, π (some ⟨w.heap.size, 0, none⟩), π (some ⟨w.heap.size + 1, 0, none⟩), undef, π (some ⟨w.heap.size + 1 + 1, 0, none⟩), π (some ⟨w.heap.size + 1 + 1 + 1, 0, none⟩), π (some ⟨w2.heap.size, 0, none⟩), π (some ⟨w2.heap.size + 1, 0, none⟩), O ι x.1, γ #[O ι xs.length, O ι a0, O ι a1, O ι a2, O ι a3, O ι s0', O ι s1, O ι s2, O ι s3, O ι off, O ι m, O ι to, u], γ #[σ sa ss.length cap], O ι fr, γ #[σ (some ⟨g, 0, none⟩) ss.length ss.length, σ sb cs.length cp, O ι fr, O ι to], π (some ⟨w.heap.size, 0, none⟩), γ #[O ι xs.length, O ι a0, O ι a1, O ι a2, O ι a3, O ι s0', O ι s1, O ι s2, O ι s3, O ι off], .func (.func 119) #[] #[π (some ⟨w2.heap.size + 2, 0, none⟩)], O ι x.1, undef, undef, undef, undef, undef, undef, undef, undef, undef, undef, undef], defers := [] }) ?assign ?body ?done ?stop
 case assign =>
  intro l x W K hK
  gi_wp2
  exact hK
 case body =>
  rintro l pre ⟨x, hx⟩ W ⟨hI, hB⟩ hlen
  obtain ⟨p, rfl⟩ : ∃ p : Nat, x = p := ⟨x.toNat, by omega⟩
  have hpl : p < cs.length := by omega
  obtain rfl := hsl.out.resolve_left (fun e => by rw [e] at hpl; simp at hpl)
  have hjX : pre.length < X.length := by omega
  have KXW := Bel.box hB KX.out
  have hBw : Bel w W := Bel.tr X0.out.bl hB
  obtain ⟨sx', cx', ex, hxr⟩ := HX.out
  injection ex with ex1 ex2 ex3
  subst ex1 ex3
  clear ex2
  rcases hxr with h0 | ⟨bx, ox, rfl, hxr⟩
  ·have q0 : X.length = 0 := by rw [h0]; rfl
   omega
  obtain ⟨t0, t1, t2⟩ := hxr pre.length hjX
  have hbx := zj t0
  have hcbm : W4.heap.size ≤ cb m ∧ g < cb m := by
   have q := hI.own.g_cb m (by rw [zo]; exact hm) (fun e => by
    have q1 := (zc1 ss m (pnv pre) Y (pnv pre).length m).2.1
    rw [e, ← Hcs.out] at q1
    simp at q1; omega)
   have q2 := hI.own.lo_g
   omega
  have hcj := hcv pre.length hjX
  generalize X.getD pre.length k0 = xv at t0 t1 t2 hcj
  obtain ⟨xi, xf, xg⟩ := xv
  simp only at t0 t1 t2
  generalize hyv : Y.getD pre.length k0 = yv at hcj
  have Hyv := hide hyv
  clear hyv
  have hni := hI.ni
  rw [zp9] at hni
  have SA : Hid ((fun w' : World => w'.cell? ⟨w2.heap.size, 0, none⟩ = some (σ (some ⟨g, 0, none⟩) ss.length ss.length) ∧ w'.cell? ⟨w2.heap.size, 1, none⟩ = some (σ (some ⟨cb m, 0, none⟩) cs.length cp) ∧ w'.cell? ⟨w2.heap.size, 2, none⟩ = some (O ι fr) ∧ w'.cell? ⟨w2.heap.size, 3, none⟩ = some (O ι to) ∧ w'.cell? ⟨w.heap.size + 1 + 1, 0, none⟩ = some (σ (some ⟨bx, ox, none⟩) X.length cx) ∧ w'.cell? ⟨w2.heap.size + 1, 0, none⟩ = some (O ι pre.length) ∧ w'.cell? ⟨bx, ox + pre.length * 3, none⟩ = some (O ι xi) ∧ w'.cell? ⟨bx, ox + pre.length * 3 + 1, none⟩ = some (.float .f64 xf) ∧ w'.cell? ⟨bx, ox + pre.length * 3 + 2, none⟩ = some (.float .f64 xg)) W.drew) := ⟨hI.d0, hI.d1, hI.d2, hI.d3, KXW, hni, Bel.box hBw t0, Bel.box hBw t1, Bel.box hBw t2⟩
  have hrow := hI.own.row m (by rw [zo]; exact hm) (fun e => by
    have q1 := (zc1 ss m (pnv pre) Y (pnv pre).length m).2.1
    rw [e, ← Hcs.out] at q1
    simp at q1; omega)
  have hpr : p < ((putT ss m (pnv pre) Y (pnv pre).length).getD m s0).2.length := by rw [(zc1 ss m (pnv pre) Y (pnv pre).length m).2.1, ← Hcs.out]; exact hpl
  obtain ⟨y0, y1, y2⟩ := hrow p hpr
  rw [Nat.zero_add] at y0 y1 y2
  have hfr := hI.own.fzr m (by rw [zo]; exact hm) (fun e => by
    have q1 := (zc1 ss m (pnv pre) Y (pnv pre).length m).2.1
    rw [e, ← Hcs.out] at q1
    simp at q1; omega)
  have HPT := hide (ze21 (w := W.drew) (g := g) (n := ss.length) (n' := ss.length) (cp := cp) (xi := xi) (xf := xf) (xg := xg) (y := yv) hpl hcj y0 y1 y2 hfr)
  have hj0 : (0 : Int) ≤ (pre.length : Int) := Int.natCast_nonneg _
  have hj1 : (pre.length : Int) < (X.length : Int) := by omega
  have hwW := hB.size
  have hnf := hI.nf
  have hd0 := zj hI.ni
  have hcbl := zj y0
  have HI := hide hI
  have HBB := hide hB
  have HBw := hide hBw
  have hgl := hI.own.g_lt
  have Ht0 := hide t0
  have Ht1 := hide t1
  have Ht2 := hide t2
  clear hrow y0 y1 y2 hfr hI hB hBw t0 t1 t2 hxr hpr
  gi_wp2
  refine zq10 (S := (fun w' : World => w'.cell? ⟨w2.heap.size, 0, none⟩ = some (σ (some ⟨g, 0, none⟩) ss.length ss.length) ∧ w'.cell? ⟨w2.heap.size, 1, none⟩ = some (σ (some ⟨cb m, 0, none⟩) cs.length cp) ∧ w'.cell? ⟨w2.heap.size, 2, none⟩ = some (O ι fr) ∧ w'.cell? ⟨w2.heap.size, 3, none⟩ = some (O ι to) ∧ w'.cell? ⟨w.heap.size + 1 + 1, 0, none⟩ = some (σ (some ⟨bx, ox, none⟩) X.length cx) ∧ w'.cell? ⟨w2.heap.size + 1, 0, none⟩ = some (O ι pre.length) ∧ w'.cell? ⟨bx, ox + pre.length * 3, none⟩ = some (O ι xi) ∧ w'.cell? ⟨bx, ox + pre.length * 3 + 1, none⟩ = some (.float .f64 xf) ∧ w'.cell? ⟨bx, ox + pre.length * 3 + 2, none⟩ = some (.float .f64 xg))) (by kernel_rfl) (by rfl) ?_
  refine wpAnyH_take (i := 0) (v := γ #[σ (some ⟨g, 0, none⟩) ss.length ss.length, σ (some ⟨cb m, 0, none⟩) cs.length cp, O ι fr, O ι to]) rfl (by kernel_rfl) (by kernel_rfl) (by kernel_rfl) (fun _ _ _ h => by cases h.1) (Or.inl ⟨by rfl, ?_⟩) SA.out ?_
  ·rintro w' ⟨z0, z1, z2, z3, z4, z5, z6, z7, z8⟩
   go_simp
  simp only [aP, sT, sZ, sS]
  refine wpAnyH_take (i := 1) (v := O ι p) rfl (by kernel_rfl) (by kernel_rfl) (by kernel_rfl) (fun _ _ _ h => by cases h.1) (Or.inl ⟨by rfl, ?_⟩) SA.out ?_
  ·rintro w' ⟨z0, z1, z2, z3, z4, z5, z6, z7, z8⟩
   go_simp
  simp only [aP, sT, sZ, sS]
  refine wpAnyH_take (i := 2) (v := σ (some ⟨bx, ox, none⟩) X.length cx) rfl (by kernel_rfl) (by kernel_rfl) (by kernel_rfl) (fun _ _ _ h => by cases h.1) (Or.inl ⟨by rfl, ?_⟩) SA.out ?_
  ·rintro w' ⟨z0, z1, z2, z3, z4, z5, z6, z7, z8⟩
   go_simp
  simp only [aP, sT, sZ, sS]
  refine wpAnyH_take (i := 3) (v := O ι pre.length) rfl (by kernel_rfl) (by kernel_rfl) (by kernel_rfl) (fun _ _ _ h => by cases h.1) (Or.inl ⟨by rfl, ?_⟩) SA.out ?_
  ·rintro w' ⟨z0, z1, z2, z3, z4, z5, z6, z7, z8⟩
   go_simp
  simp only [aP, sT, sZ, sS]
  refine wpAnyH_take (i := 4) (v := π (some ⟨bx, ox + pre.length * 3, none⟩)) rfl (by kernel_rfl) (by kernel_rfl) (by kernel_rfl) (fun _ _ _ h => by cases h.1) (Or.inl ⟨by rfl, ?_⟩) SA.out ?_
  ·rintro w' ⟨z0, z1, z2, z3, z4, z5, z6, z7, z8⟩
   go_simp
  simp only [aP, sT, sZ, sS]
  refine wpAnyH_take (i := 5) (v := γ #[O ι xi, .float .f64 xf, .float .f64 xg]) rfl (by kernel_rfl) (by kernel_rfl) (by kernel_rfl) (fun _ _ _ h => by cases h.1) (Or.inl ⟨by rfl, ?_⟩) SA.out ?_
  ·rintro w' ⟨z0, z1, z2, z3, z4, z5, z6, z7, z8⟩
   go_simp
  simp only [aP, sT, sZ, sS]
  refine wpAnyH_ready (rs := [6]) (by kernel_rfl) (by simp) ?_
  refine AllReadyH.cons rfl (fun K hK => ?_) AllReadyH.nil
  go_simp
  refine HPT.out.mono ?_
  rintro e w3 ⟨rfl, w4, x4, rfl⟩
  have xx := (Ext.refl W).drew.trans x4
  have hcm := hcball.out m hm (by rw [← Hcs.out]; exact fun e => by rw [e] at hpl; simp at hpl)
  have S3 : Hid ((fun w' : World => w'.cell? ⟨w2.heap.size, 0, none⟩ = some (σ (some ⟨g, 0, none⟩) ss.length ss.length) ∧ w'.cell? ⟨w2.heap.size, 1, none⟩ = some (σ (some ⟨cb m, 0, none⟩) cs.length cp) ∧ w'.cell? ⟨w2.heap.size, 2, none⟩ = some (O ι fr) ∧ w'.cell? ⟨w2.heap.size, 3, none⟩ = some (O ι to) ∧ w'.cell? ⟨w.heap.size + 1 + 1, 0, none⟩ = some (σ (some ⟨bx, ox, none⟩) X.length cx) ∧ w'.cell? ⟨w2.heap.size + 1, 0, none⟩ = some (O ι pre.length) ∧ w'.cell? ⟨bx, ox + pre.length * 3, none⟩ = some (O ι xi) ∧ w'.cell? ⟨bx, ox + pre.length * 3 + 1, none⟩ = some (.float .f64 xf) ∧ w'.cell? ⟨bx, ox + pre.length * 3 + 2, none⟩ = some (.float .f64 xg)) (setC w4 (cb m) (p * 3) yv)) := ⟨zp (by omega) (xx.box HI.out.d0), zp (by omega) (xx.box HI.out.d1), zp (by omega) (xx.box HI.out.d2), zp (by omega) (xx.box HI.out.d3), zp (by omega) (xx.box KXW), zp (by omega) (xx.box hni), zp (by omega) (xx.box (Bel.box HBw.out Ht0.out)), zp (by omega) (xx.box (Bel.box HBw.out Ht1.out)), zp (by omega) (xx.box (Bel.box HBw.out Ht2.out))⟩
  refine hK.out _ _ S3.out (fun _ => ?_)
  clear hK K
  try simp only [aP, sT, sZ, sS]
  refine wpAnyH_done (by kernel_rfl) ?_ _
  refine ⟨rfl, ?_⟩
  have c10 : (setC w4 (cb m) (p * 3) yv).cell? ⟨w2.heap.size + 1, 0, none⟩ = some (O ι pre.length) := S3.out.2.2.2.2.2.1
  have f10 : (setC w4 (cb m) (p * 3) yv).frozen? ⟨w2.heap.size + 1, 0, none⟩ = false := (zy12 _ _ _ _ _).trans ((xx.fz _).trans hnf)
  have HOW := hide (HOwn.far (o := 0) (v := O ι (pre.length + 1)) (HOwn.putc (x := yv) HI.out.own hm (p := p) (by rw [← Hcs.out]; exact hpl) rfl xx (by rw [zp9]; exact Hyv.out.symm)) (b := w2.heap.size + 1) (by have := hgw2.out; omega) (fun j hj hne => by
   rw [zo] at hj
   have := hcball.out j hj (fun e => hne (by rw [zh1, (zc1 ss m _ Y _ j).2.1, e]; simp))
   omega))
  have HEND : Hid (HwI2 W4 w2 g cb ss m Y (some ⟨cb m, 0, none⟩) cs.length cp fr to (pnv (pre ++ [⟨(p : Int), hx⟩])) ((setC w4 (cb m) (p * 3) yv).setCell ⟨w2.heap.size + 1, 0, none⟩ (O ι (pre.length + 1)))) := by
   have e1 : pnv (pre ++ [⟨(p : Int), hx⟩]) = pnv pre ++ [(p : Int)] := by rw [zd3]; rfl
   have e2 : (pnv pre ++ [(p : Int)]).length = (pnv pre).length + 1 := by simp
   show HwI2 W4 w2 g cb ss m Y (some ⟨cb m, 0, none⟩) cs.length cp fr to (pnv (pre ++ [⟨(p : Int), hx⟩])) _
   rw [e1]
   refine ⟨?_, zn27 S3.out.1, zn27 S3.out.2.1, zn27 S3.out.2.2.1, zn27 S3.out.2.2.2.1, ?_, ?_⟩
   ·rw [e2]; exact HOW.out
   ·rw [World.cell?_setCell_same _ _ _ c10, e2, zp9]; push_cast; rfl
   ·rw [World.frozen?_setCell]; exact f10
  have HBE : Hid (Below W4.heap.size W4 ((setC w4 (cb m) (p * 3) yv).setCell ⟨w2.heap.size + 1, 0, none⟩ (O ι (pre.length + 1)))) := (zi8 (Bel.tr HBB.out xx.bl) hcbm.1 _ _).setCell (p := ⟨w2.heap.size + 1, 0, none⟩) (by show _ ≤ w2.heap.size + 1; omega) _
  have HKO := hide ((xx.others.trans (zx12 w4 (cb m) (p * 3) yv)).trans (KeepsOthers.setCell _ ⟨w2.heap.size + 1, 0, none⟩ (O ι (pre.length + 1))))
  have HKC := hide (((xx.kc WV.heap.size).trans (zi23 (n := WV.heap.size) (b := cb m) w4 (by omega) (p * 3) yv)).trans (KC.setCell _ (p := ⟨w2.heap.size + 1, 0, none⟩) (by show w2.heap.size + 1 < _; omega) (O ι (pre.length + 1))))
  clear S3
  generalize setC w4 (cb m) (p * 3) yv = W9 at *
  gi_wp2
  exact ⟨HKO.out, HKC.out, HEND.out, HBE.out⟩
 case done =>
  rintro D ys W hD hS ⟨hI, hB⟩ hK
  have c0 := hI.d0
  have kr := Bel.box hB KR.out
  have kf := (Below.frozen hB (p := ⟨w.heap.size + 3, 0, none⟩) (by show w.heap.size + 3 < _; omega)).trans FR.out
  have HI := hide hI
  have hBw := hide (Bel.tr X0.out.bl hB)
  have hDD := hD
  clear hI hB
  gi_wp2
  have hK' := (KeepsOthers.setCell W ⟨w.heap.size + 1 + 1 + 1, 0, none⟩ (σ (some ⟨g, 0, none⟩) ss.length ss.length)).same D _ hK rfl
  refine ⟨by simp, .inl ⟨_, _, rfl, run_takeDeferred hK', ?_⟩⟩
  have hc5 := cell_kept (World.cell?_setCell_same' W ⟨w.heap.size + 1 + 1 + 1, 0, none⟩ (σ (some ⟨g, 0, none⟩) ss.length ss.length) (by rw [show (⟨w.heap.size + 1 + 1 + 1, 0, none⟩ : Addr) = ⟨w.heap.size + 3, 0, none⟩ from rfl, kr]; rfl)) (grownBy_putObj' _ D (.deferred none)) (fun r e => by cases e; exact ⟨_, hK', rfl⟩)
  refine ⟨γ #[σ (some ⟨g, 0, none⟩) ss.length ss.length], ?_, g, cb, rfl, ?_, (hBw.out.setCell (p := ⟨w.heap.size + 1 + 1 + 1, 0, none⟩) (by show _ ≤ w.heap.size + 1 + 1 + 1; omega) _).trans (belowK_b (w := w) (Nat.le_refl _) _ D _ _ (by omega) hK' rfl rfl)⟩
  ·simp [results, Tryz.results44, go_sem, hc5]
  ·have q1 := HI.out.own
   rw [hS] at q1
   have q2 := HOwn.far (o := 0) (b := w.heap.size + 1 + 1 + 1) (v := σ (some ⟨g, 0, none⟩) ss.length ss.length) q1 (by have := q1.lo_g; omega) (fun j hj hne => by
    have a1 := q1.g_cb j hj hne
    have a2 := q1.lo_g
    omega)
   exact ((q2.kept (by rw [zo]; exact h0s) (grownBy_putObj' _ D (.deferred none)) (fun r e => by cases e; exact ⟨_, hK', rfl⟩)).lower (by omega))
 case stop =>
  rintro D c pre W _ _ h _
  exact h.elim
end
end Go.Proofs.YtfhcpicddegblaaGreat
