import Derived.Test.YtjbbodfdpbcnhaaGreatSpecBS
import Derived.Test.YtjbbodfdpbcnhaaGreatM1
import Derived.Deep.QuietTactic
import Derived.Deep.RegionHeld3
import Derived.Deep.RegionHeldLaw
import Derived.Deep.AppendLies
set_option linter.unusedSimpArgs false
set_option linter.unusedVariables false
set_option maxRecDepth 100000
set_option maxHeartbeats 8000000
namespace Go.Proofs.YtjbbodfdpbcnhaaGreat
open Go.Value renaming int → O, slice → σ, agg → γ
open Go.IntKind renaming i64 → ι
open Go.Obj renaming cells → χ
section
open Go.ChangeShapes Go.RowKit
def places : List Int → List Int → Int → List Int
 | [], _, at_ => [at_]
 | n :: ns, s :: ss, at_ => (List.range n.toNat).flatMap fun (i : Nat) => places ns ss (at_ + (i : Int) * s)
 | _ :: _, [], _ => []
def least : List Int → List Int → Int → Int
 | n :: ns, s :: ss, at_ => least ns ss (at_ + min (s * (n - 1)) 0)
 | _, _, at_ => at_
def most : List Int → List Int → Int → Int
 | n :: ns, s :: ss, at_ => most ns ss (at_ + max (s * (n - 1)) 0)
 | _, _, at_ => at_
theorem zn4 : ∀ (xs ss : List Int) (a b : Int), least xs ss (a + b) = least xs ss a + b
 | [], _, a, b => by simp [least]
 | n :: ns, [], a, b => by simp [least]
 | n :: ns, s :: ss, a, b => by
  simp only [least]
  rw [show a + b + min (s * (n - 1)) 0 = a + min (s * (n - 1)) 0 + b by omega, zn4 ns ss]
theorem zz5 : ∀ (xs ss : List Int) (a b : Int), most xs ss (a + b) = most xs ss a + b
 | [], _, a, b => by simp [most]
 | n :: ns, [], a, b => by simp [most]
 | n :: ns, s :: ss, a, b => by
  simp only [most]
  rw [show a + b + max (s * (n - 1)) 0 = a + max (s * (n - 1)) 0 + b by omega, zz5 ns ss]
theorem zu1 (i n s : Int) (h0 : 0 ≤ i) (h1 : i ≤ n - 1) : min (s * (n - 1)) 0 ≤ i * s ∧ i * s ≤ max (s * (n - 1)) 0 := by
 by_cases hs : 0 ≤ s
 ·have a : 0 ≤ i * s := Int.mul_nonneg h0 hs
  have b : i * s ≤ s * (n - 1) := by rw [Int.mul_comm i s]; exact Int.mul_le_mul_of_nonneg_left h1 hs
  omega
 ·have a : i * s ≤ 0 := Int.mul_nonpos_of_nonneg_of_nonpos h0 (by omega)
  have b : s * (n - 1) ≤ i * s := by
   have := Int.mul_le_mul_of_nonneg_left h1 (show 0 ≤ -s by omega)
   rw [Int.neg_mul, Int.neg_mul] at this
   rw [Int.mul_comm i s]; omega
  omega
theorem zg7 : ∀ (xs ss : List Int) (at_ p : Int), p ∈ places xs ss at_ → xs.length = ss.length → least xs ss at_ ≤ p ∧ p ≤ most xs ss at_
 | [], ss, at_, p, h, hl => by simp [places] at h; subst h; simp [least, most]
 | n :: ns, [], at_, p, h, hl => by simp at hl
 | n :: ns, s :: ss, at_, p, h, hl => by
  simp only [places, List.mem_flatMap, List.mem_range] at h
  obtain ⟨i, hi, hp⟩ := h
  have ih := zg7 ns ss _ p hp (by simpa using hl)
  have hb := zu1 (i : Int) n s (by omega) (by omega)
  rw [zn4, zz5] at ih
  simp only [least, most]
  rw [zn4, zz5]
  omega
theorem zx12 : ∀ (xs ss : List Int) (at_ : Int), xs.length = ss.length → (∀ n ∈ xs, 1 ≤ n) → least xs ss at_ ∈ places xs ss at_ ∧ most xs ss at_ ∈ places xs ss at_
 | [], ss, at_, hl, h => by simp [places, least, most]
 | n :: ns, [], at_, hl, h => by simp at hl
 | n :: ns, s :: ss, at_, hl, h => by
  have hn : 1 ≤ n := h n (by simp)
  have ih := fun a => zx12 ns ss a (by simpa using hl) (fun m hm => h m (by simp [hm]))
  simp only [places, least, most, List.mem_flatMap, List.mem_range]
  have e0 : at_ + ((0 : Nat) : Int) * s = at_ := by simp
  have e1 : at_ + ((n.toNat - 1 : Nat) : Int) * s = at_ + s * (n - 1) := by
   have : ((n.toNat - 1 : Nat) : Int) = n - 1 := by omega
   rw [this, Int.mul_comm]
  constructor
  ·by_cases hs : s * (n - 1) ≤ 0
   ·refine ⟨n.toNat - 1, by omega, ?_⟩
    rw [e1, Int.min_eq_left hs]; exact (ih _).1
   ·refine ⟨0, by omega, ?_⟩
    rw [e0, Int.min_eq_right (by omega), Int.add_zero]; exact (ih _).1
  ·by_cases hs : s * (n - 1) ≤ 0
   ·refine ⟨0, by omega, ?_⟩
    rw [e0, Int.max_eq_right hs, Int.add_zero]; exact (ih _).2
   ·refine ⟨n.toNat - 1, by omega, ?_⟩
    rw [e1, Int.max_eq_left (by omega)]; exact (ih _).2
theorem zg19 (xs ss : List Int) (at_ : Int) (hl : xs.length = ss.length) (h : ∀ n ∈ xs, 1 ≤ n) : (∀ p ∈ places xs ss at_, 0 ≤ p ∧ p < 4096) ↔ (0 ≤ least xs ss at_ ∧ most xs ss at_ < 4096) := by
 constructor
 ·intro k
  have := zx12 xs ss at_ hl h
  exact ⟨(k _ this.1).1, (k _ this.2).2⟩
 ·intro k p hp
  have := zg7 xs ss at_ p hp hl
  omega
end
section
def mrg1 (n s : Int) : List Int → List Int → List Int × List Int
 | m :: ns, t :: ts => if n = 1 then (m :: ns, t :: ts) else if s = t * m then (m * n :: ns, t :: ts) else (n :: m :: ns, s :: t :: ts)
 | ns, ts => if n = 1 then (ns, ts) else (n :: ns, s :: ts)
def mrg : List Int → List Int → List Int × List Int
 | n :: ns, s :: ss => mrg1 n s (mrg ns ss).1 (mrg ns ss).2
 | _, _ => ([], [])
theorem zf4 (n s : Int) : mrg1 n s [] [] = if n = 1 then ([], []) else ([n], [s]) := rfl
theorem zo1 (n s m t : Int) (ns ts : List Int) : mrg1 n s (m :: ns) (t :: ts) = if n = 1 then (m :: ns, t :: ts) else if s = t * m then (m * n :: ns, t :: ts) else (n :: m :: ns, s :: t :: ts) := rfl
theorem zb5 (n s m : Int) (ns : List Int) : mrg1 n s (m :: ns) [] = if n = 1 then (m :: ns, []) else (n :: m :: ns, [s]) := rfl
theorem za5 (n s : Int) (ts : List Int) : mrg1 n s [] ts = if n = 1 then ([], ts) else ([n], s :: ts) := by cases ts <;> rfl
theorem zi18 (n s : Int) : ∀ (ns ts : List Int), ns.length = ts.length → (mrg1 n s ns ts).1.length = (mrg1 n s ns ts).2.length
 | [], [], _ => by rw [zf4]; split <;> rfl
 | m :: ns, t :: ts, h => by
  have h' : ns.length = ts.length := by simpa using h
  rw [zo1]
  split
  ·simp [h']
  ·split <;> simp [h']
 | [], _ :: _, h => by simp at h
 | _ :: _, [], h => by simp at h
theorem zy5 : ∀ (xs ss : List Int), xs.length = ss.length → (mrg xs ss).1.length = (mrg xs ss).2.length
 | [], [], _ => rfl
 | n :: ns, s :: ss, h => zi18 n s _ _ (zy5 ns ss (by simpa using h))
 | [], _ :: _, h => by simp at h
 | _ :: _, [], h => by simp at h
theorem zk20 (n s : Int) : ∀ (ns ts : List Int), ns.length = ts.length → (mrg1 n s ns ts).1.length ≤ ns.length + 1
 | [], [], _ => by rw [zf4]; split <;> simp
 | m :: ns, t :: ts, h => by
  rw [zo1]
  split
  ·simp
  ·split <;> simp
 | [], _ :: _, h => by simp at h
 | _ :: _, [], h => by simp at h
theorem zf15 {α : Type} (n m : Nat) (f : Nat → List α) : ((List.range n).flatMap fun i => (List.range m).flatMap fun j => f (i * m + j)) = (List.range (n * m)).flatMap f := by
 induction n with
 | zero => simp
 | succ n ih =>
  rw [List.range_succ, List.flatMap_append, ih, Nat.succ_mul, List.range_add, List.flatMap_append]
  simp [List.flatMap_map]
theorem zk8 (s at_ : Int) (ns ss : List Int) : places (1 :: ns) (s :: ss) at_ = places ns ss at_ := by
 simp [places]
theorem zf12 (n s : Int) (hn : 0 ≤ n) : ∀ (ns ts : List Int) (at_ : Int), ns.length = ts.length → (∀ m ∈ ns, 0 ≤ m) → places (mrg1 n s ns ts).1 (mrg1 n s ns ts).2 at_ = places (n :: ns) (s :: ts) at_
 | [], [], at_, _, _ => by
  rw [zf4]
  split
  ·next h => subst h; rw [zk8]
  ·rfl
 | m :: ns, t :: ts, at_, h, hp => by
  rw [zo1]
  split
  ·next h1 => subst h1; rw [zk8]
  ·split
   ·next h1 h2 =>
    subst h2
    have hm : 0 ≤ m := hp m (List.mem_cons_self ..)
    have e : (m * n).toNat = n.toNat * m.toNat := by
     have h3 : m = (m.toNat : Int) := by omega
     have h4 : n = (n.toNat : Int) := by omega
     rw [h3, h4, ← Int.natCast_mul, Int.toNat_natCast, Int.toNat_natCast, Int.toNat_natCast, Nat.mul_comm]
    show ((List.range (m * n).toNat).flatMap fun (i : Nat) => places ns ts (at_ + (i : Int) * t)) = (List.range n.toNat).flatMap fun (i : Nat) => (List.range m.toNat).flatMap fun (j : Nat) => places ns ts (at_ + (i : Int) * (t * m) + (j : Int) * t)
    rw [e, ← zf15]
    congr 1
    funext i
    congr 1
    funext j
    congr 1
    have h3 : m = (m.toNat : Int) := by omega
    rw [Int.natCast_add, Int.natCast_mul, ← h3, Int.add_mul, Int.mul_comm t m, ← Int.mul_assoc]
    omega
   ·rfl
 | [], _ :: _, _, h, _ => by simp at h
 | _ :: _, [], _, h, _ => by simp at h
theorem zg18 (n s : Int) (hn : 0 ≤ n) : ∀ (ns ts : List Int), (∀ m ∈ ns, 0 ≤ m) → ∀ m ∈ (mrg1 n s ns ts).1, 0 ≤ m
 | m :: ns, t :: ts, h => by
  have hm : 0 ≤ m := h m (List.mem_cons_self ..)
  have hr : ∀ k ∈ ns, 0 ≤ k := fun k hk => h k (List.mem_cons_of_mem _ hk)
  rw [zo1]
  split
  ·exact h
  ·split
   ·intro k hk
    rcases List.mem_cons.1 hk with rfl | hk
    ·exact Int.mul_nonneg hm hn
    ·exact hr k hk
   ·intro k hk
    rcases List.mem_cons.1 hk with rfl | hk
    ·exact hn
    ·exact h k hk
 | [], ts, h => by
  rw [za5]
  split
  ·simp
  ·intro k hk
   have : k = n := by simpa using hk
   omega
 | m :: ns, [], h => by
  rw [zb5]
  split
  ·exact h
  ·intro k hk
   rcases List.mem_cons.1 hk with rfl | hk
   ·exact hn
   ·exact h k hk
theorem zp16 : ∀ (xs ss : List Int), (∀ n ∈ xs, 0 ≤ n) → ∀ m ∈ (mrg xs ss).1, 0 ≤ m
 | [], _, _ => by simp [mrg]
 | _ :: _, [], _ => by simp [mrg]
 | n :: ns, s :: ss, h => zg18 n s (h n (List.mem_cons_self ..)) _ _ (zp16 ns ss (fun k hk => h k (List.mem_cons_of_mem _ hk)))
theorem zv5 : ∀ (xs ss : List Int) (at_ : Int), xs.length = ss.length → (∀ n ∈ xs, 0 ≤ n) → places (mrg xs ss).1 (mrg xs ss).2 at_ = places xs ss at_
 | [], [], _, _, _ => rfl
 | n :: ns, s :: ss, at_, h, hp => by
  have hl : ns.length = ss.length := by simpa using h
  have hr : ∀ k ∈ ns, 0 ≤ k := fun k hk => hp k (List.mem_cons_of_mem _ hk)
  show places (mrg1 n s _ _).1 (mrg1 n s _ _).2 at_ = _
  rw [zf12 n s (hp n (List.mem_cons_self ..)) _ _ at_ (zy5 ns ss hl) (zp16 ns ss hr)]
  simp only [places]
  congr 1
  funext i
  exact zv5 ns ss _ hl hr
 | [], _ :: _, _, h, _ => by simp at h
 | _ :: _, [], _, h, _ => by simp at h
end
section
open Go.ChangeShapes Go.RowKit
def ListOk (w : World) (L : List Int) (e : Ending) (w' : World) : Prop :=
 ∃ (sa : Option Addr) (cap : Nat), e = .returned (σ sa L.length cap) ∧ OwnI w' w.heap.size sa L ∧ Below w.heap.size w w'
theorem za19 {w w3 : World} {base n : Nat} {v : Value} {L : List Int} (hb : w.heap.size ≤ base) (h : w3.ownsRow base 2 1 v n (L.map (Value.int .i64))) : ∃ sa cap, v = σ sa L.length cap ∧ OwnI w3 w.heap.size sa L := by
 have hl : n = L.length := by have := h.1; simp at this; omega
 rcases h.2 with ⟨h1, h2⟩ | ⟨g, cap, cur, h1, hg, _⟩
 ·have : L = [] := List.eq_nil_of_length_eq_zero (by omega)
  subst this
  exact ⟨none, 0, h1, Or.inl rfl⟩
 ·subst h1
  obtain ⟨hr, _⟩ := zh8 h
  exact ⟨_, cap, by rw [hl], Or.inr ⟨g, rfl, by omega, hr, fun o => h.frozenAt o⟩⟩
def IntsB (w : World) (lo hi : Nat) (v : Value) (L : List Int) : Prop :=
 ∃ sa cap, v = σ sa L.length cap ∧ (L = [] ∨ ∃ b off, sa = some ⟨b, off, none⟩ ∧ lo ≤ b ∧ b < hi ∧ Row w b off L)
theorem IntsB.ints {w : World} {lo hi : Nat} {v : Value} {L : List Int} (h : IntsB w lo hi v L) : Ints w v L := by
 obtain ⟨sa, cap, rfl, h⟩ := h
 refine ⟨sa, cap, rfl, ?_⟩
 rcases h with h | ⟨b, off, h1, _, _, h2⟩
 ·exact Or.inl h
 ·exact Or.inr ⟨b, off, h1, h2⟩
structure MIn (lo hi : Nat) (w w' : World) : Prop where
 bl : Below lo w w'
 box : ∀ k o v, (k < lo ∨ hi ≤ k) → w.cell? ⟨k, o, none⟩ = some v → w'.cell? ⟨k, o, none⟩ = some v
 fz : ∀ a, w'.frozen? a = w.frozen? a
def FZ (w : World) (v : Value) (L : List Int) : Prop := L = [] ∨ ∃ b off n cap, v = σ (some ⟨b, off, none⟩) n cap ∧ b < w.heap.size ∧ ∀ o, w.frozen? ⟨b, o, none⟩ = false
theorem zu14 {w : World} {vS vT : Value} {xs : List Int} (hS : Ints w vS xs) (off at_ : Int) (axis : Nat) (ha : axis = xs.length) :
  Calls Tryz.prog 58 #[γ #[vS, vT, O ι off], O ι axis, O ι at_] w fun e w' => ListOk w [at_] e w' := by
 obtain ⟨sa, cap, rfl, _⟩ := hS
 subst ha
 go_enter Tryz.func58, Tryz.ntmps58
 go_wp2
 go_ret
 have n2 := fun j => zg (w.alloc (χ #[σ sa xs.length cap, vT, O ι off] 28)) #[O ι at_] 2 (w.heap.size + 1) (by simp) j
 have e1 : Ext w ((w.alloc (χ #[σ sa xs.length cap, vT, O ι off] 28)).alloc (χ #[O ι at_] 2)) := ((Ext.refl w).alloc _ _).alloc _ _
 refine ⟨some ⟨w.heap.size + 1, 0, none⟩, 1, rfl, Or.inr ⟨w.heap.size + 1, rfl, by omega, fun j hj => ?_, fun o => e1.unfrozen (by omega) o⟩, e1.bl⟩
 obtain rfl : j = 0 := by simp at hj; omega
 exact n2 0
def plen : List Int → Nat
 | [] => 1
 | n :: ns => n.toNat * plen ns
theorem zp13 : ∀ (xs : List Int), (∀ n ∈ xs, 1 ≤ n) → 1 ≤ plen xs
 | [], _ => by simp [plen]
 | n :: ns, h => by
  have h1 := zp13 ns (fun m hm => h m (by simp [hm]))
  have h2 : 1 ≤ n := h n (by simp)
  simp only [plen]
  exact Nat.mul_pos (by omega) h1
theorem zl2 : ∀ (xs ss : List Int) (at_ : Int), xs.length = ss.length → (places xs ss at_).length = plen xs
 | [], ss, at_, _ => by simp [places, plen]
 | n :: ns, [], at_, h => by simp at h
 | n :: ns, s :: ss, at_, h => by
  simp only [places, plen]
  have : ∀ k : Nat, ((List.range k).flatMap fun (i : Nat) => places ns ss (at_ + (i : Int) * s)).length = k * plen ns := fun k => by
   induction k with
   | zero => simp
   | succ k ih => rw [List.range_succ, List.flatMap_append, List.length_append, ih]; simp [zl2 ns ss _ (by simpa using h)]; rw [Nat.succ_mul]
  exact this _
theorem zi3 {w w' : World} {base n : Nat} {v : Value} {L : List Value} (h : w.ownsRow base 2 1 v n L) (x : Bel w w') : w'.ownsRow base 2 1 v n L :=
 h.kept (row := none) ⟨Below.os x, Below.tape x, Below.output x, Below.size x, fun k hk _ => Below.block x k hk⟩ (by
  rcases h.2 with ⟨rfl, _⟩ | ⟨g, cap, cur, rfl, _⟩
  ·exact Or.inl rfl
  ·right; simp [Value.ownBlock])
structure PS (w wr : World) (vS vT : Value) (off : Int) (L : List Int) (v : Value) : Prop where
 own : wr.ownsRow (w.heap.size + 1) 2 1 v L.length (L.map (Value.int .i64))
 nn : ∃ g cap, v = σ (some ⟨g, 0, none⟩) L.length cap
 bl : Below w.heap.size w wr
 p0 : wr.cell? ⟨w.heap.size, 0, none⟩ = some vS
 p1 : wr.cell? ⟨w.heap.size, 1, none⟩ = some vT
 p2 : wr.cell? ⟨w.heap.size, 2, none⟩ = some (O ι off)
 sz : w.heap.size + 1 ≤ wr.heap.size
theorem PS.start (w : World) (vS vT : Value) (off : Int) : PS w ((w.alloc (χ #[vS, vT, O ι off] 28)).alloc (χ #[] 2)) vS vT off [] (σ (some ⟨w.heap.size + 1, 0, none⟩) 0 0) := by
 have e1 : Ext w ((w.alloc (χ #[vS, vT, O ι off] 28)).alloc (χ #[] 2)) := ((Ext.refl w).alloc _ _).alloc _ _
 have e2 : Ext (w.alloc (χ #[vS, vT, O ι off] 28)) ((w.alloc (χ #[vS, vT, O ι off] 28)).alloc (χ #[] 2)) := (Ext.refl _).alloc _ _
 have n1 := fun j => zg w #[vS, vT, O ι off] 28 w.heap.size rfl j
 refine ⟨?_, ⟨_, _, rfl⟩, e1.bl, e2.box (n1 0), e2.box (n1 1), e2.box (n1 2), by simp⟩
 have := World.ownsRow_made (base := w.heap.size + 1) (e := 2) (size := 1) (w.alloc (χ #[vS, vT, O ι off] 28)) #[] 0 (by simp) (by unfold maxLen; omega) rfl
 simpa using this
theorem PS.keep {w wr w2 : World} {vS vT v : Value} {off : Int} {L : List Int} (h : PS w wr vS vT off L v) (x : Bel wr w2) : PS w w2 vS vT off L v :=
 ⟨zi3 h.own x, h.nn, h.bl.trans (Below.mono x (Below.size h.bl)), x.box h.p0, x.box h.p1, x.box h.p2, Nat.le_trans h.sz (Below.size x)⟩
theorem PS.step {w wr w3 : World} {vS vT v : Value} {off : Int} {L M : List Int} (h : PS w wr vS vT off L v) {g cap : Nat}
  (hown : w3.ownsRow (w.heap.size + 1) 2 1 (σ (some ⟨g, 0, none⟩) (L.length + M.length) cap) (L.length + M.length) (L.map (Value.int .i64) ++ M.map (Value.int .i64))) (hgrow : World.grownBy wr w3 v.ownBlock) :
  PS w w3 vS vT off (L ++ M) (σ (some ⟨g, 0, none⟩) (L.length + M.length) cap) := by
 have hs := h.sz
 obtain ⟨g0, cap0, rfl⟩ := h.nn
 have hg : w.heap.size + 1 ≤ g0 := (h.own.lt g0 rfl).1
 have hcell : ∀ o, w3.cell? ⟨w.heap.size, o, none⟩ = wr.cell? ⟨w.heap.size, o, none⟩ := fun o => by
  rw [World.cell?_of_block (hgrow.block w.heap.size (by omega) (by simp [Value.ownBlock]; omega))]
 refine ⟨by simpa using hown, ⟨g, cap, by simp⟩, h.bl.grown hgrow (by omega) (fun j hj => by simp [Value.ownBlock] at hj; omega), (hcell 0).trans h.p0, (hcell 1).trans h.p1, (hcell 2).trans h.p2, ?_⟩
 have := hgrow.size
 omega
structure RS (w wr : World) (vS vT : Value) (off : Int) (b o : Nat) (s : Int) : Prop where
 p0 : wr.cell? ⟨w.heap.size, 0, none⟩ = some vS
 p1 : wr.cell? ⟨w.heap.size, 1, none⟩ = some vT
 p2 : wr.cell? ⟨w.heap.size, 2, none⟩ = some (O ι off)
 st : wr.cell? ⟨b, o, none⟩ = some (O ι s)
theorem RS.keep {w wr w2 : World} {vS vT : Value} {off : Int} {b o : Nat} {s : Int} (h : RS w wr vS vT off b o s) (x : Bel wr w2) : RS w w2 vS vT off b o s := ⟨x.box h.p0, x.box h.p1, x.box h.p2, x.box h.st⟩
theorem zz (w : World) : Bel w w.drew := (Below.refl _ _).drew
theorem zy17 {w' : World} {lo : Nat} {sa : Option Addr} {L : List Int} (h : OwnI w' lo sa L) (hL : 1 ≤ L.length) : ∃ g, sa = some ⟨g, 0, none⟩ ∧ Row w' g 0 L := by
 rcases h with rfl | ⟨g, h1, _, h3, _⟩
 ·simp at hL
 ·exact ⟨g, h1, h3⟩
theorem zw17 {w : World} {g : Nat} {L : List Int} (h : Row w g 0 L) : ∀ j u, (L.map (Value.int .i64))[j]? = some u → w.cell? ((⟨g, 0, none⟩ : Addr).add j) = some u := by
 intro j u hu
 have hj : j < L.length := by
  have := (List.getElem?_eq_some_iff.1 hu).1
  simpa using this
 have e : L[j]? = some (L.getD j 0) := by simp [List.getD_eq_getElem?_getD, hj]
 rw [List.getElem?_map, e] at hu
 simp only [Option.map_some, Option.some.injEq] at hu
 subst hu
 rw [Addr.add_lit]
 exact h j hj
theorem zl16 (L : List Int) : ∀ u ∈ L.map (Value.int .i64), u.oneCell' = true := by
 intro x hx
 simp at hx
 obtain ⟨y, _, rfl⟩ := hx
 rfl
theorem PS.own2 {w wr : World} {vS vT : Value} {off : Int} {L : List Int} {g0 l c0 : Nat} (h : PS w wr vS vT off L (σ (some ⟨g0, 0, none⟩) l c0)) (hl : L.length = l) : wr.ownsRow (w.heap.size + 1) 2 1 (σ (some ⟨g0, 0, none⟩) l c0) l (L.map (Value.int .i64)) := by
 subst hl; exact h.own
theorem PS.step2 {w wr w3 : World} {vS vT : Value} {off : Int} {L M : List Int} {g0 l c0 m : Nat} (h : PS w wr vS vT off L (σ (some ⟨g0, 0, none⟩) l c0)) (hl : L.length = l) (hm : M.length = m) {g cap : Nat}
  (hown : w3.ownsRow (w.heap.size + 1) 2 1 (σ (some ⟨g, 0, none⟩) (l + m) cap) (l + m) (L.map (Value.int .i64) ++ M.map (Value.int .i64))) (hgrow : World.grownBy wr w3 (Value.slice (some ⟨g0, 0, none⟩) l c0).ownBlock) :
  PS w w3 vS vT off (L ++ M) (σ (some ⟨g, 0, none⟩) (l + m) cap) := by
 subst hl
 subst hm
 exact h.step hown hgrow
theorem zn20 {M : List Int} {m : Nat} (hm : M.length = m) : (M.map (Value.int .i64)).length = m * 1 := by simp [hm]
theorem zq18 (F : Int → List Int) (M : Nat) (hF : ∀ i, (F i).length = M) (at_ s : Int) (k : Nat) : ((List.range k).flatMap fun (i : Nat) => F (at_ + (i : Int) * s)).length = k * M := by
 induction k with
 | zero => simp
 | succ k ih => rw [List.range_succ, List.flatMap_append, List.length_append, ih]; simp [hF]; rw [Nat.succ_mul]
theorem ze12 {w : World} {vS vT : Value} {xs ss : List Int} (hS : Ints w vS xs) (hT : Ints w vT ss) (off at_ : Int) (axis : Nat) (ha : axis < xs.length) (h4 : xs.length ≤ 4) (hl : xs.length = ss.length)
  (n s : Int) (hn : n = xs.getD axis 0) (hs : s = ss.getD axis 0) (hn1 : 1 ≤ n ∧ n ≤ 4096) (hs1 : -4096 ≤ s ∧ s ≤ 4096) (hat : -100000000 ≤ at_ ∧ at_ ≤ 100000000)
  (F : Int → List Int) (M : Nat) (hM : 1 ≤ M) (hF : ∀ i, (F i).length = M) (hnM : n.toNat * M ≤ 4096)
  (ih : ∀ (W : World) (p : Int), Bel w W → at_ - 16777216 ≤ p ∧ p ≤ at_ + 16777216 → Calls Tryz.prog 58 #[γ #[vS, vT, O ι off], O ι ((axis : Int) + 1), O ι p] W fun e w' => ListOk W (F p) e w') :
  Calls Tryz.prog 58 #[γ #[vS, vT, O ι off], O ι axis, O ι at_] w fun e w' => ListOk w ((List.range n.toNat).flatMap fun (i : Nat) => F (at_ + (i : Int) * s)) e w' := by
 obtain ⟨i0, hi0, hz0, hz1, hz2⟩ := info_parts zy7
 obtain ⟨sa, cap, rfl, hS⟩ := hS
 obtain ⟨ta, dap, rfl, hT⟩ := hT
 rcases hS with h0 | ⟨bS, oS, rfl, rowS⟩
 ·rw [h0] at ha; simp at ha
 rcases hT with h0 | ⟨bT, oT, rfl, rowT⟩
 ·rw [hl, h0] at ha; simp at ha
 have cS := rowS axis ha
 have cT := rowT axis (by omega)
 rw [← hn] at cS
 rw [← hs] at cT
 have IH := hide ih
 have HFl := hide hF
 have HL := hide hl
 have hne : ((axis : Int) == (xs.length : Int)) = false := by simp; omega
 have ha0 : (0 : Int) ≤ (axis : Int) := Int.natCast_nonneg _
 have ha1 : (axis : Int) < (xs.length : Int) := by omega
 have ha2 : (axis : Int) < (ss.length : Int) := by omega
 clear hn hs rowS rowT ih hF hl
 have S0 := hide (PS.start w (σ (some ⟨bS, oS, none⟩) xs.length cap) (σ (some ⟨bT, oT, none⟩) ss.length dap) off)
 go_enter Tryz.func58, Tryz.ntmps58
 go_wp2
 go_loopw [7, 8] (fun o i wr => ∃ k : Nat, i = O ι k ∧ k ≤ n.toNat ∧ PS w wr (σ (some ⟨bS, oS, none⟩) xs.length cap) (σ (some ⟨bT, oT, none⟩) ss.length dap) off ((List.range k).flatMap fun (i : Nat) => F (at_ + (i : Int) * s)) o) (fun o i _ => n.toNat - (intOf i).toNat)
 case atStart => exact ⟨0, rfl, by omega, by simpa using S0.out⟩
 case round =>
  obtain ⟨k, rfl, hk, hP⟩ := hrel
  have HP := hide hP
  have p0 := hP.p0
  have p1 := hP.p1
  have p2 := hP.p2
  have qS := Bel.box hP.bl cS
  have qT := Bel.box hP.bl cT
  have hszr := hP.sz
  clear hP
  by_cases hlt : k < n.toNat
  ·have hkn : (k : Int) < n := by omega
   have hms : -16777216 ≤ (k : Int) * s ∧ (k : Int) * s ≤ 16777216 := by
    have := zu1 (k : Int) n s (by omega) (by omega)
    have h1 : -16777216 ≤ s * (n - 1) ∧ s * (n - 1) ≤ 16777216 := by
     have := zu1 (n - 1) 4096 s (by omega) (by omega)
     rw [Int.mul_comm s (n - 1)]
     omega
    omega
   have hkM : k * M + M ≤ 4096 := by
    have h1 : (k + 1) * M ≤ n.toNat * M := Nat.mul_le_mul_right M hlt
    rw [Nat.succ_mul] at h1
    omega
   have hLl := zq18 F M HFl.out at_ s k
   have hFp := HFl.out (at_ + (k : Int) * s)
   have hsucc : ((List.range (k + 1)).flatMap fun (i : Nat) => F (at_ + (i : Int) * s)) = ((List.range k).flatMap fun (i : Nat) => F (at_ + (i : Int) * s)) ++ F (at_ + (k : Int) * s) := by
    rw [List.range_succ, List.flatMap_append]; simp
   have HIH := hide (IH.out wr.drew (at_ + (k : Int) * s) (Bel.tr HP.out.bl (zz wr)) (by omega))
   have hwa : IntKind.i64.wrap ((axis : Int) + 1) = (axis : Int) + 1 := by rw [IntKind.wrap_i64]; omega
   have hwm : IntKind.i64.wrap ((k : Int) * s) = (k : Int) * s := by rw [IntKind.wrap_i64]; omega
   have hwp : IntKind.i64.wrap (at_ + (k : Int) * s) = at_ + (k : Int) * s := by rw [IntKind.wrap_i64]; omega
   obtain ⟨g0, c0, hv⟩ := HP.out.nn
   subst hv
   generalize hFF : F (at_ + (k : Int) * s) = FF at HIH hFp hsucc
   generalize hLL : ((List.range k).flatMap fun (i : Nat) => F (at_ + (i : Int) * s)) = LL at HP hLl hsucc ⊢
   have Hsucc := hide hsucc
   clear hsucc hFF hLL
   have HPd := hide (HP.out.keep (zz wr))
   have HD : Hid (RS w wr.drew (σ (some ⟨bS, oS, none⟩) xs.length cap) (σ (some ⟨bT, oT, none⟩) ss.length dap) off bT (oT + axis) s) := RS.keep ⟨p0, p1, p2, qT⟩ (zz wr)
   rw [hLl] at HPd ⊢
   have hB63 : k * M + M ≤ maxLen := by unfold maxLen; omega
   have hB8 : (k * M + M) * 8 ≤ 140737488355328 := by omega
   have hM0 : 0 < M := hM
   have hone : 0 < 1 := Nat.one_pos
   go_wp2_with fail
   go_region_held3 (fun w' => w'.cell? ⟨w.heap.size, 0, none⟩ = some (σ (some ⟨bS, oS, none⟩) xs.length cap) ∧ w'.cell? ⟨w.heap.size, 1, none⟩ = some (σ (some ⟨bT, oT, none⟩) ss.length dap) ∧ w'.cell? ⟨w.heap.size, 2, none⟩ = some (O ι off) ∧ w'.cell? ⟨bT, oT + axis, none⟩ = some (O ι s)) (first | exact ⟨HD.out.p0, HD.out.p1, HD.out.p2, HD.out.st⟩ | exact ⟨HE4.out.p0, HE4.out.p1, HE4.out.p2, HE4.out.st⟩ | exact ⟨HF5.out.p0, HF5.out.p1, HF5.out.p2, HF5.out.st⟩) (first | (go_at_call 58; refine HIH.out.mono ?_; rintro e w4 ⟨sb, cb, rfl, hO, hB4⟩; obtain ⟨g, rfl, hrow⟩ := zy17 hO (by omega); have HE4 := hide (HD.out.keep hB4); have HP4 := hide (HPd.out.keep hB4); have Hrow := hide hrow; have hsz4 := HP4.out.sz; rw [hFp]; clear hO hB4 hrow) | (refine step_append_lies _ (by rfl) (.tmp 26) (.tmp 39) 26 (by rfl) (w.heap.size + 1) 2 i0 (O ι 0) 1 8 Tryz.underlying26 hi0 hz0 hz1 hz2 rfl hone (σ (some ⟨g0, 0, none⟩) (k * M) c0) (k * M) (LL.map (Value.int .i64)) (by rfl) (HP4.out.own2 hLl) ⟨g, 0, none⟩ M cb (FF.map (Value.int .i64)) (by rfl) (zn20 hFp) (zw17 Hrow.out) (zl16 FF) hM0 hB63 hB8 hsz4 w4.heap.size rfl ?_; intro g2 cap2 w5 hown5 hgrow5 hat5 hlt5; have HPS := hide (HP4.out.step2 hLl hFp hown5 hgrow5); have HF5 : Hid (RS w w5 (σ (some ⟨bS, oS, none⟩) xs.length cap) (σ (some ⟨bT, oT, none⟩) ss.length dap) off bT (oT + axis) s) := ⟨HPS.out.p0, HPS.out.p1, HPS.out.p2, Bel.box HPS.out.bl cT⟩))
   go_wp2
   go_roundw
   ·exact ⟨k + 1, by go_num, by omega, by rw [Hsucc.out]; exact HPS.out⟩
   ·simp [intOf]; omega
  ·have hkk : k = n.toNat := by omega
   subst hkk
   have hnk : ¬ ((n.toNat : Nat) : Int) < n := by omega
   have HO := hide (za19 (w := w) (by omega) HP.out.own)
   have HBl := hide HP.out.bl
   clear HP
   go_wp2
   go_ret
   obtain ⟨sx, cx, hv, ho⟩ := HO.out
   subst hv
   exact ⟨sx, cx, rfl, ho, HBl.out⟩
theorem zh11 (xs : List Int) (k : Nat) (hk : k < xs.length) : xs.drop k = xs.getD k 0 :: xs.drop (k + 1) := by
 rw [List.drop_eq_getElem_cons hk, List.getD_eq_getElem?_getD, List.getElem?_eq_getElem hk]; rfl
theorem zl8 (xs ss : List Int) (hl : xs.length = ss.length) (h4 : xs.length ≤ 4) (h1 : ∀ n ∈ xs, 1 ≤ n ∧ n ≤ 4096) (hs : ∀ s ∈ ss, -4096 ≤ s ∧ s ≤ 4096) (off : Int) (vS vT : Value) :
  ∀ (r axis : Nat), axis + r = xs.length → ∀ (w : World) (at_ : Int), Ints w vS xs → Ints w vT ss → plen (xs.drop axis) ≤ 4096 → (-8192 - (axis : Int) * 16777216 ≤ at_ ∧ at_ ≤ 8192 + (axis : Int) * 16777216) →
   Calls Tryz.prog 58 #[γ #[vS, vT, O ι off], O ι axis, O ι at_] w fun e w' => ListOk w (places (xs.drop axis) (ss.drop axis) at_) e w' := by
 intro r
 induction r with
 | zero =>
  intro axis ha w at_ hS hT hp hb
  have e : xs.drop axis = [] := List.drop_eq_nil_of_le (by omega)
  rw [e]
  exact zu14 hS off at_ axis (by omega)
 | succ r ih =>
  intro axis ha w at_ hS hT hp hb
  have hax : axis < xs.length := by omega
  have ex := zh11 xs axis hax
  have es := zh11 ss axis (by omega)
  have hmx : xs.getD axis 0 ∈ xs := by rw [List.getD_eq_getElem?_getD, List.getElem?_eq_getElem hax]; exact List.getElem_mem _
  have hms : ss.getD axis 0 ∈ ss := by rw [List.getD_eq_getElem?_getD, List.getElem?_eq_getElem (by omega)]; exact List.getElem_mem _
  have hn := h1 _ hmx
  have hp2 : plen (xs.drop axis) = (xs.getD axis 0).toNat * plen (xs.drop (axis + 1)) := by rw [ex]; rfl
  have hpos : 1 ≤ plen (xs.drop (axis + 1)) := zp13 _ (fun m hm => (h1 m (List.mem_of_mem_drop hm)).1)
  have hple : plen (xs.drop (axis + 1)) ≤ 4096 := by
   refine Nat.le_trans ?_ hp
   rw [hp2]
   exact Nat.le_mul_of_pos_left _ (by omega)
  have hdl : (xs.drop (axis + 1)).length = (ss.drop (axis + 1)).length := by rw [List.length_drop, List.length_drop, hl]
  have hst := ze12 hS hT off at_ axis hax h4 hl (xs.getD axis 0) (ss.getD axis 0) rfl rfl hn (hs _ hms) (by omega) (places (xs.drop (axis + 1)) (ss.drop (axis + 1))) (plen (xs.drop (axis + 1))) hpos (fun i => zl2 _ _ _ hdl) (by rw [← hp2]; exact hp)
   (fun W p hW hpb => by
    have := ih (axis + 1) (by omega) W p (hS.below hW) (hT.below hW) hple (by omega)
    rw [show ((axis + 1 : Nat) : Int) = (axis : Int) + 1 by omega] at this
    exact this)
  rw [ex, es]
  exact hst
end
end Go.Proofs.YtjbbodfdpbcnhaaGreat
