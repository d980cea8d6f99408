import Derived.Test.YtbkdfhlbjaiahaaPlaces
import Derived.Test.YtbkdfhlbjaiahaaMarks2
import Derived.Deep.RegionHeld3
import Derived.Deep.RegionHeldLaw
import Derived.Deep.AppendLies
namespace Go.Proofs.Ytbkdfhlbjaiahaa
open Go.ChangeShapes Go.RowKit
set_option linter.unusedSimpArgs false
set_option linter.unusedVariables false

set_option maxRecDepth 100000 in
set_option maxHeartbeats 2000000 in
theorem places_end {w : World} {vS vT : Value} {xs : List Int} (hS : Ints w vS xs) (off at_ : Int) (axis : Nat) (ha : axis = xs.length) :
    Calls Try.prog 70 #[.agg #[vS, vT, .int .i64 off], .int .i64 axis, .int .i64 at_] w fun e w' => ListOk w [at_] e w' := by
  obtain ⟨sa, cap, rfl, _⟩ := hS
  subst ha
  go_enter Try.func70, Try.ntmps70
  go_wp2
  go_ret
  have n2 := fun j => new_cell (w.alloc (.cells #[.slice sa xs.length cap, vT, .int .i64 off] 40)) #[.int .i64 at_] 2 (w.heap.size + 1) (by simp) j
  have e1 : Ext w ((w.alloc (.cells #[.slice sa xs.length cap, vT, .int .i64 off] 40)).alloc (.cells #[.int .i64 at_] 2)) := ((Ext.refl w).alloc _ _).alloc _ _
  refine ⟨some ⟨w.heap.size + 1, 0, none⟩, 1, rfl, Or.inr ⟨w.heap.size + 1, rfl, by omega, fun j hj => ?_, fun o => e1.unfrozen (by omega) o⟩, e1.bl⟩
  obtain rfl : j = 0 := by simp at hj; omega
  exact n2 0

/-- How many places there are. -/
def plen : List Int → Nat
  | [] => 1
  | n :: ns => n.toNat * plen ns
theorem plen_pos : ∀ (xs : List Int), (∀ n ∈ xs, 1 ≤ n) → 1 ≤ plen xs
  | [], _ => by simp [plen]
  | n :: ns, h => by
    have h1 := plen_pos ns (fun m hm => h m (by simp [hm]))
    have h2 : 1 ≤ n := h n (by simp)
    simp only [plen]
    exact Nat.mul_pos (by omega) h1
theorem places_len : ∀ (xs ss : List Int) (at_ : Int), xs.length = ss.length → (places xs ss at_).length = plen xs
  | [], ss, at_, _ => by simp [places, plen]
  | n :: ns, [], at_, h => by simp at h
  | n :: ns, s :: ss, at_, h => by
    simp only [places, plen]
    have : ∀ k : Nat, ((List.range k).flatMap fun (i : Nat) => places ns ss (at_ + (i : Int) * s)).length = k * plen ns := fun k => by
      induction k with
      | zero => simp
      | succ k ih => rw [List.range_succ, List.flatMap_append, List.length_append, ih]; simp [places_len ns ss _ (by simpa using h)]; rw [Nat.succ_mul]
    exact this _

theorem own_keep {w w' : World} {base n : Nat} {v : Value} {L : List Value} (h : w.ownsRow base 2 1 v n L) (x : Bel w w') : w'.ownsRow base 2 1 v n L :=
  h.kept (row := none) ⟨Below.os x, Below.tape x, Below.output x, Below.size x, fun k hk _ => Below.block x k hk⟩ (by
    rcases h.2 with ⟨rfl, _⟩ | ⟨g, cap, cur, rfl, _⟩
    · exact Or.inl rfl
    · right; simp [Value.ownBlock])

/-- The world of the loop. -/
structure PS (w wr : World) (vS vT : Value) (off : Int) (L : List Int) (v : Value) : Prop where
  own : wr.ownsRow (w.heap.size + 1) 2 1 v L.length (L.map (Value.int .i64))
  nn : ∃ g cap, v = .slice (some ⟨g, 0, none⟩) L.length cap
  bl : Below w.heap.size w wr
  p0 : wr.cell? ⟨w.heap.size, 0, none⟩ = some vS
  p1 : wr.cell? ⟨w.heap.size, 1, none⟩ = some vT
  p2 : wr.cell? ⟨w.heap.size, 2, none⟩ = some (.int .i64 off)
  sz : w.heap.size + 1 ≤ wr.heap.size

theorem PS.start (w : World) (vS vT : Value) (off : Int) : PS w ((w.alloc (.cells #[vS, vT, .int .i64 off] 40)).alloc (.cells #[] 2)) vS vT off [] (.slice (some ⟨w.heap.size + 1, 0, none⟩) 0 0) := by
  have e1 : Ext w ((w.alloc (.cells #[vS, vT, .int .i64 off] 40)).alloc (.cells #[] 2)) := ((Ext.refl w).alloc _ _).alloc _ _
  have e2 : Ext (w.alloc (.cells #[vS, vT, .int .i64 off] 40)) ((w.alloc (.cells #[vS, vT, .int .i64 off] 40)).alloc (.cells #[] 2)) := (Ext.refl _).alloc _ _
  have n1 := fun j => new_cell w #[vS, vT, .int .i64 off] 40 w.heap.size rfl j
  refine ⟨?_, ⟨_, _, rfl⟩, e1.bl, e2.box (n1 0), e2.box (n1 1), e2.box (n1 2), by simp⟩
  have := World.ownsRow_made (base := w.heap.size + 1) (e := 2) (size := 1) (w.alloc (.cells #[vS, vT, .int .i64 off] 40)) #[] 0 (by simp) (by unfold maxLen; omega) rfl
  simpa using this

theorem PS.keep {w wr w2 : World} {vS vT v : Value} {off : Int} {L : List Int} (h : PS w wr vS vT off L v) (x : Bel wr w2) : PS w w2 vS vT off L v :=
  ⟨own_keep h.own x, h.nn, h.bl.trans (Below.mono x (Below.size h.bl)), x.box h.p0, x.box h.p1, x.box h.p2, Nat.le_trans h.sz (Below.size x)⟩

theorem PS.step {w wr w3 : World} {vS vT v : Value} {off : Int} {L M : List Int} (h : PS w wr vS vT off L v) {g cap : Nat}
    (hown : w3.ownsRow (w.heap.size + 1) 2 1 (.slice (some ⟨g, 0, none⟩) (L.length + M.length) cap) (L.length + M.length) (L.map (Value.int .i64) ++ M.map (Value.int .i64))) (hgrow : World.grownBy wr w3 v.ownBlock) :
    PS w w3 vS vT off (L ++ M) (.slice (some ⟨g, 0, none⟩) (L.length + M.length) cap) := by
  have hs := h.sz
  obtain ⟨g0, cap0, rfl⟩ := h.nn
  have hg : w.heap.size + 1 ≤ g0 := (h.own.lt g0 rfl).1
  have hcell : ∀ o, w3.cell? ⟨w.heap.size, o, none⟩ = wr.cell? ⟨w.heap.size, o, none⟩ := fun o => by
    rw [World.cell?_of_block (hgrow.block w.heap.size (by omega) (by simp [Value.ownBlock]; omega))]
  refine ⟨by simpa using hown, ⟨g, cap, by simp⟩, h.bl.grown hgrow (by omega) (fun j hj => by simp [Value.ownBlock] at hj; omega), (hcell 0).trans h.p0, (hcell 1).trans h.p1, (hcell 2).trans h.p2, ?_⟩
  have := hgrow.size
  omega
end Go.Proofs.Ytbkdfhlbjaiahaa
