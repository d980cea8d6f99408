import Derived.Test.YtjjemnlknnnkbaaPoolO
import Derived.Carry
namespace Go.Proofs.Ytjjemnlknnnkbaa
open Go.ChangeShapes Go.RowKit Go.Lib Go.ChangeMaps
set_option linter.unusedSimpArgs false
set_option linter.unusedVariables false
def NewOk (w : World) (budget : Int) (e : Ending) (w' : World) : Prop :=
  ∃ P Mb, e = .returned (.pointer (some ⟨P, 0, none⟩)) ∧ Pl w' w.heap.size P Mb 0 budget [] ∧ Ext w w'

theorem Ext.allocMap {a b : World} (h : Ext a b) : Ext a (b.alloc (.map #[] 0)) :=
  ⟨h.bl.alloc h.bl.size _, fun x => by
    refine Eq.trans ?_ (h.fz x)
    show World.frozen? _ x = _
    unfold World.frozen?
    have e : (b.alloc (.map #[] 0)).heap[x.block]? = if x.block = b.heap.size then some (.map #[] 0) else b.heap[x.block]? := by
      show (b.heap.push _)[x.block]? = _
      rw [Array.getElem?_push]
    rw [e]
    by_cases h1 : x.block = b.heap.size
    · have h2 : b.heap[x.block]? = none := by simp [h1]
      rw [if_pos h1, h2]
    · rw [if_neg h1]⟩
theorem new_pool (w : World) (budget : Int) : Pl ((w.alloc (.map #[] 0)).alloc (.cells #[.int .i32 0, .int .u32 0, .int .i64 0, .int .i64 budget, .slice none 0 0, .map (some w.heap.size)] 89)) w.heap.size (w.heap.size + 1) w.heap.size 0 budget [] := by
  have hP : ((w.alloc (.map #[] 0)).alloc (.cells #[.int .i32 0, .int .u32 0, .int .i64 0, .int .i64 budget, .slice none 0 0, .map (some w.heap.size)] 89)).heap[w.heap.size + 1]? = some (.cells #[.int .i32 0, .int .u32 0, .int .i64 0, .int .i64 budget, .slice none 0 0, .map (some w.heap.size)] 89 (0, 0)) := heap_alloc2_new w _ _
  have hM : ((w.alloc (.map #[] 0)).alloc (.cells #[.int .i32 0, .int .u32 0, .int .i64 0, .int .i64 budget, .slice none 0 0, .map (some w.heap.size)] 89)).heap[w.heap.size]? = some (.map #[] 0) := heap_alloc2_old w _ _
  have hs : w.heap.size ≤ ((w.alloc (.map #[] 0)).alloc (.cells #[.int .i32 0, .int .u32 0, .int .i64 0, .int .i64 budget, .slice none 0 0, .map (some w.heap.size)] 89)).heap.size := by simp; omega
  generalize ((w.alloc (.map #[] 0)).alloc (.cells #[.int .i32 0, .int .u32 0, .int .i64 0, .int .i64 budget, .slice none 0 0, .map (some w.heap.size)] 89)) = W at *
  have hc := fun o => cell_of_row W (w.heap.size + 1) o _ 89 (0, 0) hP
  refine ⟨[], .slice none 0 0, fun _ => nilI, ⟨(hc 0).trans rfl, (hc 2).trans rfl, (hc 3).trans rfl, (hc 4).trans rfl, (hc 5).trans rfl, fun o => frozen_of_row W (w.heap.size + 1) o _ 89 hP⟩, World.ownsRow_nil _ _ _ _, rfl, fun j hj => absurd hj (Nat.not_lt_zero _), fun j hj => absurd hj (Nat.not_lt_zero _), ⟨#[], 0, hM, Nat.le_refl _, MapKept.stamped_empty 0, fun e he => by simp at he, fun a _ => rfl⟩, fun s => Or.inl ⟨rfl, rfl⟩, fun s s' k hk => by simp [nilI, Value.ownBlock] at hk, ⟨by omega, Nat.le_refl _, hs⟩, fun s k hk => by simp [nilI, Value.ownBlock] at hk, fun j hj => absurd hj (Nat.not_lt_zero _), by omega, by simp [Value.ownBlock], fun s => by simp [nilI, Value.ownBlock], fun j hj => absurd hj (Nat.not_lt_zero _)⟩

set_option maxRecDepth 100000 in
set_option maxHeartbeats 1000000 in
theorem newPool_any (w : World) (budget : Int) : Calls Try.prog 31 #[.int .i64 budget] w fun e w' => NewOk w budget e w' := by
  have hmm : (Instr.makeMap 86 none).run Try.prog w = .ok (.map (some w.heap.size)) (w.alloc (.map #[] 0)) := run_makeMap _ _
  have Hres : Hid (NewOk w budget (.returned (.pointer (some ⟨w.heap.size + 1, 0, none⟩))) ((w.alloc (.map #[] 0)).alloc (.cells #[.int .i32 0, .int .u32 0, .int .i64 0, .int .i64 budget, .slice none 0 0, .map (some w.heap.size)] 89))) :=
    ⟨_, _, rfl, new_pool w budget, ((Ext.refl w).allocMap).alloc _ _⟩
  go_enter Try.func31, Try.ntmps31
  go_wp2
  go_ret
  exact Hres.out
end Go.Proofs.Ytjjemnlknnnkbaa
