import Derived.Test.YtjjemnlknnnkbaaInsD
import Derived.Maps.Keyed
namespace Go.Proofs.Ytjjemnlknnnkbaa
open Go.ChangeShapes Go.RowKit Go.Lib Go.MapKept Go.ChangeMaps Go.Maps
set_option linter.unusedSimpArgs false
set_option linter.unusedVariables false

def nilI : Value := .slice none 0 0
/-- Block b is a map of at most n entries from integers to lists: M, nil where there is none. -/
def MpIs (w : World) (b n : Nat) (M : Int → Value) : Prop :=
  ∃ es clock, w.heap[b]? = some (.map es clock) ∧ es.size ≤ n ∧ Stamped es clock ∧ (∀ e ∈ es.toList, ∃ a, e.key = .int .i64 a ∧ (Lit.int .i64 a).wf = true ∧ M a = e.val) ∧ ∀ a, (∀ e ∈ es.toList, e.key ≠ .int .i64 a) → M a = nilI
theorem keyed2 : Keyed Try.prog 2 := int_keyed Try.underlying2
theorem key2 {a : Int} (h : (Lit.int .i64 a).wf = true) : keyOf Try.prog 2 (.int .i64 a) = some (.int .i64 a) := keyOf_int_mk Try.underlying2 h
theorem mp_look {w : World} {b n : Nat} {M : Int → Value} (h : MpIs w b n M) {a : Int} (ha : (Lit.int .i64 a).wf = true) :
    (Instr.lookup 86 (.map (some b)) (.int .i64 a) false).run Try.prog w = .ok (M a) w := by
  obtain ⟨es, clock, hb, hn, hs, hk, hz⟩ := h
  have hz0 : (zeroValue 30).run Try.prog w = .ok nilI w := Try.zeroValue30 w
  rcases keyed2.find w (key2 ha) es.toList (fun e he => by obtain ⟨x, h1, h2, _⟩ := hk e he; exact ⟨_, by rw [h1]; exact key2 h2⟩) with ⟨h1, h2⟩ | ⟨j, e0, h1, h2, h3⟩
  · simp [Instr.lookup, run_underlying Try.underlying86, MapKept.run_getObj_map hb, keyed2.check w _ (key2 ha), h1, hz0, Result.andThen, hz a h2]
  · obtain ⟨x, g1, g2, g3⟩ := hk e0 (List.mem_of_getElem? h2)
    rw [h3] at g1
    cases g1
    simp [Instr.lookup, run_underlying Try.underlying86, MapKept.run_getObj_map hb, keyed2.check w _ (key2 ha), h1, Result.andThen, g3]
/-- Entries apart. -/
theorem ent_apart {es : Array MapEntry} {clock : Nat} (hs : Stamped es clock) {i j : Nat} {x y : MapEntry} (hi : es.toList[i]? = some x) (hj : es.toList[j]? = some y) (hne : i ≠ j) : x.key ≠ y.key := by
  have hp := ((stamped_iff es clock).1 hs).2.2
  rw [List.pairwise_iff_getElem] at hp
  obtain ⟨hi1, rfl⟩ := List.getElem?_eq_some_iff.1 hi
  obtain ⟨hj1, rfl⟩ := List.getElem?_eq_some_iff.1 hj
  rcases Nat.lt_or_gt_of_ne hne with h | h
  · exact hp i j hi1 hj1 h
  · exact fun e => hp j i hj1 hi1 h e.symm
theorem mp_put {w : World} {b n : Nat} {M : Int → Value} (h : MpIs w b n M) {a : Int} (ha : (Lit.int .i64 a).wf = true) (v : Value) :
    ∃ es' clock', (Instr.mapUpdate 86 (.map (some b)) (.int .i64 a) v).run Try.prog w = .ok () (setBlock w b (.map es' clock')) ∧ MpIs (setBlock w b (.map es' clock')) b (n + 1) (fun x => if x = a then v else M x) := by
  obtain ⟨es, clock, hb, hn, hs, hk, hz⟩ := h
  rcases keyed2.find w (key2 ha) es.toList (fun e he => by obtain ⟨x, h1, h2, _⟩ := hk e he; exact ⟨_, by rw [h1]; exact key2 h2⟩) with ⟨h1, h2⟩ | ⟨j, e0, h1, h2, h3⟩
  · refine ⟨es.push ⟨.int .i64 a, v, clock⟩, clock + 1, ?_, _, _, heap_setBlock_same hb _, by simp; omega, stamped_push hs h2, fun e he => ?_, fun x hx => ?_⟩
    · simp [Instr.mapUpdate, run_underlying Try.underlying86, MapKept.run_getObj_map hb, keyed2.check w false (key2 ha), h1, MapKept.run_setObj_map _ hb, Result.andThen, setBlock]
    · simp only [Array.toList_push, List.mem_append, List.mem_singleton] at he
      rcases he with he | rfl
      · obtain ⟨x, g1, g2, g3⟩ := hk e he
        refine ⟨x, g1, g2, ?_⟩
        show (if x = a then v else M x) = _
        rw [if_neg (fun e1 => h2 e he (by rw [g1, e1])), g3]
      · exact ⟨a, rfl, ha, by simp⟩
    · show (if x = a then v else M x) = _
      rw [if_neg (fun e1 => hx ⟨.int .i64 a, v, clock⟩ (by simp) (by rw [e1]))]
      exact hz x (fun e he => hx e (by simp [Array.mem_def.1, Array.mem_toList_iff.1 he]))
  · have hj : es[j]? = some e0 := by simpa using h2
    have hkeyf : ∀ e', es[j]? = some e' → ({ e' with key := .int .i64 a, val := v } : MapEntry).key = e'.key := fun e' he' => by rw [hj] at he'; cases he'; exact h3.symm
    have hlist : (es.modify j (fun e' => { e' with key := .int .i64 a, val := v })).toList = es.toList.set j { e0 with key := .int .i64 a, val := v } := by rw [Array.toList_modify, modify_eq_set _ _ _ _ h2]
    have hjl : j < es.toList.length := (List.getElem?_eq_some_iff.1 h2).1
    refine ⟨es.modify j (fun e' => { e' with key := .int .i64 a, val := v }), clock, ?_, _, _, heap_setBlock_same hb _, by simp; omega, stamped_modify hs _ _ (fun _ _ => rfl) (fun e' _ he' => hkeyf e' he'), fun e he => ?_, fun x hx => ?_⟩
    · simp [Instr.mapUpdate, run_underlying Try.underlying86, MapKept.run_getObj_map hb, keyed2.check w false (key2 ha), h1, hj, h3, keyed2.stays w (key2 ha), MapKept.run_setObj_map _ hb, Result.andThen, setBlock]
    · rw [hlist] at he
      obtain ⟨i, hi, ex⟩ := List.getElem_of_mem he
      rw [List.getElem_set] at ex
      split at ex
      · exact ⟨a, by rw [← ex], ha, by rw [← ex]; simp⟩
      · rename_i hne
        have hi' : i < es.toList.length := by simpa using hi
        obtain ⟨x, g1, g2, g3⟩ := hk e (ex ▸ List.getElem_mem hi')
        refine ⟨x, g1, g2, ?_⟩
        show (if x = a then v else M x) = _
        rw [if_neg (fun e1 => ent_apart hs (i := i) (j := j) (by rw [List.getElem?_eq_getElem hi', ex]) h2 (fun e2 => hne e2.symm) (by rw [g1, h3, e1])), g3]
    · rw [hlist] at hx
      show (if x = a then v else M x) = _
      have hxa : x ≠ a := fun e1 => hx _ (List.mem_set hjl _) (by rw [e1])
      rw [if_neg hxa]
      refine hz x (fun e he => ?_)
      obtain ⟨i, hi, rfl⟩ := List.getElem_of_mem he
      by_cases hij : i = j
      · subst hij
        rw [List.getElem?_eq_getElem hi] at h2
        cases h2
        rw [h3]
        intro e1; cases e1; exact hxa rfl
      · exact hx _ (by rw [List.mem_iff_getElem?]; exact ⟨i, by rw [List.getElem?_set_ne (fun e1 => hij e1.symm), List.getElem?_eq_getElem hi]⟩)
theorem mp_del {w : World} {b n : Nat} {M : Int → Value} (h : MpIs w b n M) {a : Int} (ha : (Lit.int .i64 a).wf = true) :
    ∃ es' clock', (∀ ty, (Builtin.delete_ #[86, 2] ty #[.map (some b), .int .i64 a]).run Try.prog w = .ok (.tuple #[]) (setBlock w b (.map es' clock'))) ∧ MpIs (setBlock w b (.map es' clock')) b n (fun x => if x = a then nilI else M x) := by
  obtain ⟨es, clock, hb, hn, hs, hk, hz⟩ := h
  rcases keyed2.find w (key2 ha) es.toList (fun e he => by obtain ⟨x, h1, h2, _⟩ := hk e he; exact ⟨_, by rw [h1]; exact key2 h2⟩) with ⟨h1, h2⟩ | ⟨j, e0, h1, h2, h3⟩
  · refine ⟨es, clock, fun ty => ?_, _, _, heap_setBlock_same hb _, hn, hs, fun e he => ?_, fun x hx => ?_⟩
    · simp [Builtin.delete_, run_underlying Try.underlying86, MapKept.run_getObj_map hb, keyed2.check w _ (key2 ha), h1, MapKept.run_setObj_map _ hb, Result.andThen, setBlock]
    · obtain ⟨x, g1, g2, g3⟩ := hk e he
      refine ⟨x, g1, g2, ?_⟩
      show (if x = a then nilI else M x) = _
      rw [if_neg (fun e1 => h2 e he (by rw [g1, e1])), g3]
    · show (if x = a then nilI else M x) = _
      split
      · rfl
      · exact hz x hx
  · have hjl : j < es.toList.length := (List.getElem?_eq_some_iff.1 h2).1
    have hjs : j < es.size := by simpa using hjl
    have hsub : (es.eraseIdxIfInBounds j).toList = es.toList.eraseIdx j := by
      unfold Array.eraseIdxIfInBounds
      rw [dif_pos hjs]
      simp
    refine ⟨es.eraseIdxIfInBounds j, clock, fun ty => ?_, _, _, heap_setBlock_same hb _, Nat.le_trans (MapFrom.size_erase es j) hn, stamped_erase hs j, fun e he => ?_, fun x hx => ?_⟩
    · simp [Builtin.delete_, run_underlying Try.underlying86, MapKept.run_getObj_map hb, keyed2.check w _ (key2 ha), h1, MapKept.run_setObj_map _ hb, Result.andThen, setBlock]
    · rw [hsub] at he
      obtain ⟨i, hne, hi⟩ := List.mem_eraseIdx_iff_getElem?.1 he
      obtain ⟨x, g1, g2, g3⟩ := hk e (List.mem_of_getElem? hi)
      refine ⟨x, g1, g2, ?_⟩
      show (if x = a then nilI else M x) = _
      rw [if_neg (fun e1 => ent_apart hs hi h2 hne (by rw [g1, h3, e1])), g3]
    · rw [hsub] at hx
      show (if x = a then nilI else M x) = _
      split
      · rfl
      · rename_i hxa
        refine hz x (fun e he => ?_)
        obtain ⟨i, hi, rfl⟩ := List.getElem_of_mem he
        by_cases hij : i = j
        · subst hij
          rw [List.getElem?_eq_getElem hi] at h2
          cases h2
          rw [h3]
          intro e1; cases e1; exact hxa rfl
        · exact hx _ (List.mem_eraseIdx_iff_getElem?.2 ⟨i, hij, List.getElem?_eq_getElem hi⟩)
end Go.Proofs.Ytjjemnlknnnkbaa
