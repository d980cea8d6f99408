import Derived.Test.YtjjemnlknnnkbaaCrew
namespace Go.Proofs.Ytjjemnlknnnkbaa
open Go.ChangeShapes Go.RowKit Go.MuLone
set_option linter.unusedSimpArgs false
set_option linter.unusedVariables false

theorem zero97 : Try.zeroCells97 = #[.int .i32 0, .int .u32 0] ++ Array.replicate 67 (.int .i64 0) := by kernel_rfl
def crewOf (z : Array Value) (tiles n : Int) : Array Value := (((((z.setIfInBounds 0 (.int .i32 0)).setIfInBounds 1 (.int .u32 0)).setIfInBounds 2 (.int .i64 0)).setIfInBounds 3 (.int .i64 tiles)).setIfInBounds 4 (.int .i64 n))
theorem crew_size : Try.zeroCells97.size = 69 := by rw [zero97]; simp
theorem crew_at0 (tiles n : Int) : (crewOf Try.zeroCells97 tiles n)[0]? = some (.int .i32 0) := by
  unfold crewOf; simp [Array.getElem?_setIfInBounds, crew_size]
theorem crew_at2 (tiles n : Int) : (crewOf Try.zeroCells97 tiles n)[2]? = some (.int .i64 0) := by
  unfold crewOf; simp [Array.getElem?_setIfInBounds, crew_size]
theorem crew_at3 (tiles n : Int) : (crewOf Try.zeroCells97 tiles n)[3]? = some (.int .i64 tiles) := by
  unfold crewOf; simp [Array.getElem?_setIfInBounds, crew_size]
theorem crew_at4 (tiles n : Int) : (crewOf Try.zeroCells97 tiles n)[4]? = some (.int .i64 n) := by
  unfold crewOf; simp [Array.getElem?_setIfInBounds, crew_size]
theorem crew_at5 (tiles n : Int) (j : Nat) (hj : j < 64) : (crewOf Try.zeroCells97 tiles n)[5 + j]? = some (.int .i64 0) := by
  unfold crewOf
  rw [Array.getElem?_setIfInBounds_ne (by omega), Array.getElem?_setIfInBounds_ne (by omega), Array.getElem?_setIfInBounds_ne (by omega), Array.getElem?_setIfInBounds_ne (by omega), Array.getElem?_setIfInBounds_ne (by omega), zero97, Array.getElem?_append_right (by simp; omega), Array.getElem?_replicate, if_pos (by simp; omega)]
theorem crew_start (w : World) (tiles n : Int) : Crew (w.alloc (.cells (crewOf Try.zeroCells97 tiles n) 97)) w.heap.size 0 tiles n (fill (List.replicate 64 (-1)) 0) := by
  have n1 := fun j => new_cell w (crewOf Try.zeroCells97 tiles n) 97 w.heap.size rfl j
  have x0 : Ext w (w.alloc (.cells (crewOf Try.zeroCells97 tiles n) 97)) := (Ext.refl w).alloc _ _
  refine ⟨(n1 0).trans (crew_at0 _ _), (n1 2).trans (crew_at2 _ _), (n1 3).trans (crew_at3 _ _), (n1 4).trans (crew_at4 _ _), fun j hj => ?_, fun o => x0.unfrozen (Nat.le_refl _) o⟩
  rw [fill_zero] at hj ⊢
  simp only [List.length_replicate] at hj ⊢
  rw [n1 (5 + j), crew_at5 _ _ j hj]
  rw [List.getD_eq_getElem?_getD, List.getElem?_replicate, if_pos hj]; rfl

set_option maxRecDepth 100000 in
set_option maxHeartbeats 1000000 in
theorem newCrew_any (w : World) (tiles n : Int) :
    Calls Try.prog 34 #[.int .i64 tiles, .int .i64 n] w fun e w' => e = .returned (.pointer (some ⟨w.heap.size, 0, none⟩)) ∧ Crew w' w.heap.size 0 tiles n (List.replicate 64 (-1)) ∧ Ext w w' := by
  have S0 := hide (crew_start w tiles n)
  have X0 : Hid (Ext w (w.alloc (.cells (crewOf Try.zeroCells97 tiles n) 97))) := (Ext.refl w).alloc _ _
  go_enter Try.func34, Try.ntmps34
  go_wp2_with fail
  change Code.wp Try.prog _ _ { tmps := _, defers := _ } (w.alloc (.cells (crewOf Try.zeroCells97 tiles n) 97))
  generalize hW : w.alloc (.cells (crewOf Try.zeroCells97 tiles n) 97) = W at S0 X0 ⊢
  clear hW
  go_loopw [12] (fun i wr => ∃ k : Nat, i = .int .i64 k ∧ k ≤ 64 ∧ Crew wr w.heap.size 0 tiles n (fill (List.replicate 64 (-1)) k) ∧ Ext w wr) (fun i _ => 64 - (intOf i).toNat)
  case atStart => exact ⟨0, rfl, by omega, S0.out, X0.out⟩
  case round =>
    obtain ⟨k, rfl, hk, hC, hX⟩ := hrel
    have HC := hide hC
    have HX := hide hX
    clear hC hX
    by_cases hlt : k < 64
    · have hlen : (fill (List.replicate 64 (-1)) k).length = 64 := by rw [fill_len, List.length_replicate]
      have q0 := HC.out.ch k (by rw [hlen]; exact hlt)
      have f0 := HC.out.fz (5 + k)
      have hk0 : (0 : Int) ≤ (k : Int) := Int.natCast_nonneg _
      have hk1 : (k : Int) < 64 := by omega
      have St := HC.out.hold k (by rw [hlen]; exact hlt) (-1)
      have e := fill_set (List.replicate 64 (-1)) k (by rw [List.length_replicate]; exact hlt)
      have e2 : (List.replicate 64 (-1 : Int)).getD k 0 = -1 := by rw [List.getD_eq_getElem?_getD, List.getElem?_replicate, if_pos hlt]; rfl
      rw [e2] at e
      rw [e] at St
      have HSt := hide St
      clear St e e2 hlen
      generalize (fill (List.replicate 64 (-1)) k).getD k 0 = v at q0
      go_wp2
      go_roundw
      · exact ⟨k + 1, by go_num, by omega, HSt.out, HX.out.setCell (Nat.le_refl _) _⟩
      · simp [intOf]; omega
    · have hkk : k = 64 := by omega
      subst hkk
      have hC := HC.out
      have e := fill_full (List.replicate 64 (-1))
      rw [List.length_replicate] at e
      rw [e] at hC
      have HC2 := hide hC
      clear hC HC e
      go_wp2
      go_ret
      exact ⟨rfl, HC2.out, HX.out⟩
end Go.Proofs.Ytjjemnlknnnkbaa
