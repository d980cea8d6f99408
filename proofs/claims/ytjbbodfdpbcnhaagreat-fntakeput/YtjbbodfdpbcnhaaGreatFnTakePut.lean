import Derived.Test.YtjbbodfdpbcnhaaGreatRows
import Derived.Test.YtjbbodfdpbcnhaaGreatM14
import Derived.Test.YtjbbodfdpbcnhaaGreatM14
import Derived.WalkKit
import Derived.ProofKit
import Derived.OpenShut
import Derived.ChangeSlices
import Derived.Carry
namespace Go.Proofs.YtjbbodfdpbcnhaaGreat.fnTakePut
open Go.ChangeShapes Go.WideShapes Go.ChangeAt Go.RowKit
set_option linter.unusedVariables false
set_option linter.unusedSimpArgs false

theorem zv22 : ownKnob Tryz.prog.godebug = none := by kernel_rfl

set_option maxRecDepth 100000 in
set_option maxHeartbeats 1000000 in
theorem zw22 (w : World) (sa sb : Option Addr) (len cap lem cbp : Nat) (hlen : (1048576 : Int) < (len : Int)) :
    Calls Tryz.prog 3 #[.slice sa len cap, .slice sb lem cbp] w fun e w' => LawTp w e w' := by
  go_enter Tryz.func3, Tryz.ntmps3
  go_wp2
  go_ret
  exact ⟨rfl, Below.refl _ _⟩
set_option maxRecDepth 100000 in
set_option maxHeartbeats 1000000 in
theorem ze22 (w : World) (sa sb : Option Addr) (len cap lem cbp : Nat) (h0 : ¬ (1048576 : Int) < (len : Int)) (hlen : (1048576 : Int) < (lem : Int)) :
    Calls Tryz.prog 3 #[.slice sa len cap, .slice sb lem cbp] w fun e w' => LawTp w e w' := by
  have d1 : decide ((1048576 : Int) < (len : Int)) = false := decide_eq_false h0
  have d2 : decide ((1048576 : Int) < (lem : Int)) = true := decide_eq_true hlen
  go_enter Tryz.func3, Tryz.ntmps3
  go_wp2
  go_ret
  exact ⟨rfl, Below.refl _ _⟩

theorem zu22 {w : World} {sc sm : Option Addr} {lc lm cc cm : Nat} (hc : Code w (.slice sc lc cc) lc) (hm : Code w (.slice sm lm cm) lm) : Calls Tryz.prog 3 #[.slice sc lc cc, .slice sm lm cm] w fun e w' => LawTp w e w' := by
  by_cases h : (1048576 : Int) < (lc : Int)
  · exact zw22 w _ _ _ _ _ _ h
  · by_cases h2 : (1048576 : Int) < (lm : Int)
    · exact ze22 w _ _ _ _ _ _ h h2
    · exact zf22 hc hm (by omega) (by omega)

set_option maxRecDepth 100000 in
theorem lifted (os : Os) (started : os.Started) (H : Type) (enc : TypeId × Value → H) :
    ReturnsInHanded {} Tryz.checked os 3 .any (Rows.fnTakePutSpec.pre6 enc Tryz.prog Tryz.f3 Rows.fnTakePutRow.domain false) (Rows.fnTakePutSpec.post enc Tryz.prog Tryz.f3 false true false false) := by
  refine returnsInHanded_of_change (C := Tryz.checked) zv22 started (by kernel_rfl) Tryz.func3
    (ChangeSpec.witness6 (enc := enc) (C := Tryz.checked) false ⟨#[], #[.slice none 0 0, .slice none 0 0], []⟩ 8 (by kernel_rfl) (by kernel_rfl) (by kernel_rfl) (by kernel_rfl)) ?_
  intro W base args ds gs before hval0 hW hcnd _
  have hval : ∀ (j : Nat) t v, Tryz.f3.params[j]? = some t → args[j]? = some v → Value.okWide Tryz.prog W .any base t v := hval0
  have hW' := hW
  obtain ⟨p, q, hA0, hV, rfl, hfz, hnd⟩ := hW
  have hA : DataW.TrodAll enc Tryz.prog W 0 (fun _ => true) true Tryz.f3.params.toList args.toList ds p := hA0
  rw [Tryz.params3] at hA hval
  obtain ⟨v0, vs0, d0, ds0, p0, q0, hargs, rfl, rfl, h0, r0⟩ := trodAll_cons hA
  obtain ⟨v1, vs1, d1, ds1, p1, q1, rfl, rfl, rfl, h1, r1⟩ := trodAll_cons r0
  obtain ⟨rfl, rfl, rfl⟩ := trodAll_nil r1
  obtain rfl : args = #[v0, v1] := by cases args; simp_all
  obtain ⟨rfl, rfl⟩ := trodVars_none hV
  obtain ⟨sc, lc, cc, rfl, hc⟩ := zl17 (hval 0 22 v0 rfl rfl) h0
  obtain ⟨sm, lm, cm, rfl, hm⟩ := zl17 (hval 1 22 v1 rfl rfl) h1
  clear hA0 hval0
  simp only [List.append_nil] at hW'
  have hlt : ∀ x ∈ p0 ++ p1, x.block < W.heap.size := fun x hx => by simpa using hW'.lt x hx
  have hlt0 : ∀ x ∈ p0, x.block < W.heap.size := fun x hx => hlt x (List.mem_append_left _ hx)
  have hlt1 : ∀ x ∈ p1, x.block < W.heap.size := fun x hx => hlt x (List.mem_append_right _ hx)
  refine (zu22 hc hm).mono fun e W' hL => ?_
  obtain ⟨rfl, hB⟩ : e = .returned (.bool true) ∧ Below W.heap.size W W' := hL
  refine ⟨_, rfl, _, _, _, [], p0 ++ p1, [], hW', ?_, ?_, ?_, hB.frame _, fun h => by cases h⟩
  · exact trodAll_cons_mk (shut_bool Tryz.underlying4 _) trodAll_mk0
  · have a0 := Below.trod zr22 (by kernel_rfl) (of_decide_eq_true (by kernel_rfl)) h0 hB hlt0
    have a1 := Below.trod zr22 (by kernel_rfl) (of_decide_eq_true (by kernel_rfl)) h1 hB hlt1
    exact trodAll_mk2 a0 a1
  · rfl

theorem over : Rows.fnTakePutRow.holds Tryz.pinned (OpenSpec.ofChange Rows.fnTakePutSpec) :=
  OpenClaim.holds_of_wide 3 Tryz.f3 rfl rfl rfl rfl rfl rfl rfl ⟨rfl, rfl, rfl, rfl, rfl⟩ rfl rfl rfl rfl rfl (by kernel_rfl) Tryz.func3 (by kernel_rfl)
    (of_decide_eq_true (by kernel_rfl)) (by unfold Func.isWrapper; first | (rw [if_pos (by decide +kernel)]; kernel_rfl) | (rw [if_neg (by decide +kernel)]; exact ⟨rfl, rfl⟩))
    (fun os started H enc _ => lifted os started H enc)
end Go.Proofs.YtjbbodfdpbcnhaaGreat.fnTakePut
namespace Go.Proofs.YtjbbodfdpbcnhaaGreat
theorem fnTakePut_holds : Rows.FnTakePutSaid := fnTakePut.over
end Go.Proofs.YtjbbodfdpbcnhaaGreat
