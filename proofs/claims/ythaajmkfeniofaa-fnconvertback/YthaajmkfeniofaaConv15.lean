import Derived.Test.YthaajmkfeniofaaConv14
import Derived.Test.YthaajmkfeniofaaDrawC
namespace Go.Proofs.Ythaajmkfeniofaa
open Go.RowKit FL Ieee
set_option linter.unusedSimpArgs false
set_option linter.unusedVariables false

theorem valid_i64 {dt i : Int} {f g : Nat} (h : validB dt i f g = true) : I64 i := by
  have hd := valid_dt dt i f g h
  unfold I64
  by_cases h6 : dt ≤ 6
  · obtain ⟨h1, h2, _⟩ := valid_int dt i f g h h6
    unfold lowL at h1
    unfold highL at h2
    repeat' split at h1
    all_goals (repeat' split at h2)
    all_goals omega
  by_cases h8 : dt ≤ 8
  · have := (valid_flt dt i f g h (by omega) h8).1
    omega
  · obtain rfl : dt = 9 := by omega
    have := valid_cpx i f g h
    omega

theorem b0 : B64 0 := by unfold B64; omega

theorem bF {to i' : Int} {x f : Nat} (hx : B64 x) (h : ConvF to x i' f) : B64 f := by
  rcases h with ⟨rfl, rfl, rfl⟩ | ⟨rfl, rfl, hs⟩ | ⟨h8, rfl, rfl⟩ | ⟨h2, rfl, n, hn, rfl⟩
  · exact b0
  · exact hs.1
  · exact hx
  · exact b0

theorem conv_bits {from_ to i i' : Int} {f g f' g' : Nat} (ht : 1 ≤ to ∧ to ≤ 9) (hi : I64 i) (hf : B64 f) (hg : B64 g) (h : ConvR from_ to i f g i' f' g') : I64 i' ∧ B64 f' ∧ B64 g' := by
  refine ⟨valid_i64 (conv_valid ht hi h), ?_⟩
  rcases h with ⟨_, rfl, rfl, rfl⟩ | ⟨hv, rfl, rfl, rfl, rfl⟩ | ⟨_, _, rfl, h | h | h⟩
  · exact ⟨b0, b0⟩
  · exact ⟨hf, hg⟩
  · refine ⟨?_, b0⟩
    rcases h.2 with ⟨rfl, rfl, rfl⟩ | ⟨rfl, rfl, rfl⟩ | ⟨h8, rfl, rfl⟩ | ⟨h2, rfl, rfl⟩
    · exact b0
    · exact wide_lt _
    · exact ofInt_lt _
    · exact b0
  · exact ⟨bF hf h.2, b0⟩
  · refine ⟨?_, b0⟩
    rcases h.2 with ⟨rfl, rfl, rfl⟩ | ⟨_, h⟩
    · exact b0
    · exact bF hf h

theorem conv_zero {from_ to i i' : Int} {f g f' g' : Nat} (hv : validB from_ i f g = false) (h : ConvR from_ to i f g i' f' g') : i' = 0 ∧ f' = 0 ∧ g' = 0 := by
  rcases h with ⟨_, rfl, rfl, rfl⟩ | ⟨h, _⟩ | ⟨h, _⟩
  · exact ⟨rfl, rfl, rfl⟩
  · rw [hv] at h; cases h
  · rw [hv] at h; cases h

/-- The world of the loop. -/
structure CB (w w1 wr : World) (i : Int) (f g : Nat) : Prop where
  bl : Below w.heap.size w wr
  c0 : wr.cell? ⟨w1.heap.size, 0, none⟩ = some (.int .i64 i)
  c1 : wr.cell? ⟨w1.heap.size, 1, none⟩ = some (.float .f64 f)
  c2 : wr.cell? ⟨w1.heap.size, 2, none⟩ = some (.float .f64 g)
  sz : w1.heap.size < wr.heap.size

theorem CB.ext {w w1 wr w2 : World} {i : Int} {f g : Nat} (h : CB w w1 wr i f g) (x : Ext wr w2) : CB w w1 w2 i f g :=
  ⟨h.bl.trans (x.bl.mono h.bl.size), x.box h.c0, x.box h.c1, x.box h.c2, Nat.lt_of_lt_of_le h.sz x.bl.size⟩
end Go.Proofs.Ythaajmkfeniofaa
