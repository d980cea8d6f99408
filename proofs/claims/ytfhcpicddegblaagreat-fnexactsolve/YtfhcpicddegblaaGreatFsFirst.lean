import Derived.Test.YtfhcpicddegblaaGreatM5
import Derived.RegionTactic
namespace Go.Proofs.YtfhcpicddegblaaGreat
open Go.RowKit Go.ChangeShapes
set_option linter.unusedSimpArgs false
set_option linter.unusedVariables false

theorem ints_bel {w w' : World} {v : Value} {xs : List Int} (h : Ints w v xs) (x : Bel w w') : Ints w' v xs := by
  obtain ⟨sa, cap, rfl, h⟩ := h
  refine ⟨sa, cap, rfl, ?_⟩
  rcases h with h | ⟨b, off, h1, h2⟩
  · exact Or.inl h
  · exact Or.inr ⟨b, off, h1, fun j hj => Bel.box x (h2 j hj)⟩
/-- An array: its store, its shape, its strides, its offset. -/
structure Ar where
  st : Int
  xs : List Int
  sv : List Int
  off : Int
def a0A : Ar := ⟨0, [], [], 0⟩
/-- The arrays lie in block g from place o on. -/
def ARow (w : World) (g o : Nat) (al : List Ar) : Prop := ∀ j, j < al.length → ∃ vS vT, w.cell? ⟨g, o + j * 4, none⟩ = some (.int .i64 (al.getD j a0A).st) ∧ w.cell? ⟨g, o + j * 4 + 1, none⟩ = some vS ∧ w.cell? ⟨g, o + j * 4 + 2, none⟩ = some vT ∧ w.cell? ⟨g, o + j * 4 + 3, none⟩ = some (.int .i64 (al.getD j a0A).off) ∧ Ints w vS (al.getD j a0A).xs ∧ Ints w vT (al.getD j a0A).sv
def Ar.Len (a : Ar) : Prop := a.xs.length ≤ 1048576 ∧ a.sv.length ≤ 1048576
abbrev Ar.Good (ss : List St) (a : Ar) : Prop := GoodA ss a.st a.xs a.sv a.off
/-- The code of a call over these arrays. -/
def firstL (ss : List St) (al : List Ar) : Int := if vHeap ss = true then (if ∀ a ∈ al, a.Good ss then 0 else 2) else 1

set_option maxHeartbeats 2000000 in
theorem l4First_any {w : World} {v : Value} {ss : List St} {g o cp : Nat} {al : List Ar} (h : SV w v ss) (hg : SG ss) (hl : SL ss 1048576) (ha : ARow w g o al) (hal : ∀ a ∈ al, a.Len) (hn : al.length ≤ 1000) :
    Calls Tryz.prog 25 #[.agg #[v], .slice (some ⟨g, o, none⟩) al.length cp] w fun e w' => e = .returned (.int .i64 (firstL ss al)) ∧ Bel w w' := by
  obtain ⟨sa, cap, rfl, hx⟩ := h
  have h : SV w (.slice sa ss.length cap) ss := ⟨sa, cap, rfl, hx⟩
  have x0 : Ext w (w.alloc (.cells #[.slice sa ss.length cap] 34)) := (Ext.refl w).alloc _ _
  have n1 := fun j => new_cell w #[.slice sa ss.length cap] 34 w.heap.size rfl j
  have C0 : Hid ((w.alloc (.cells #[.slice sa ss.length cap] 34)).cell? ⟨w.heap.size, 0, none⟩ = some (.slice sa ss.length cap)) := n1 0
  have c0 := C0.out
  have X0 := hide x0
  have HH := hide (h.keep x0.bl)
  have hvh := hide (sVH_any HH.out hg hl)
  have HA := hide ha
  have H0 := hide h
  clear hx h x0 n1 ha
  cases hV : vHeap ss with
  | false =>
    have hf : Hid (firstL ss al = 1) := by show _ = _; unfold firstL; rw [if_neg (by rw [hV]; simp)]
    rw [hV] at hvh
    go_enter Tryz.func25, Tryz.ntmps25
    go_wp2_with (go_at_call 65; refine hvh.out.mono ?_; rintro e w1 ⟨rfl, x1⟩)
    go_ret
    exact ⟨by rw [hf.out]; rfl, (X0.out.trans x1).bl⟩
  | true =>
    have hf : Hid (firstL ss al = if ∀ a ∈ al, a.Good ss then 0 else 2) := by show _ = _; unfold firstL; rw [if_pos hV]
    rw [hV] at hvh
    go_enter Tryz.func25, Tryz.ntmps25
    go_wp2_with fail
    refine hvh.out.mono ?_
    rintro e w1 ⟨rfl, x1⟩
    have X1 := hide (X0.out.trans x1).bl
    have C1 := hide (x1.box c0)
    clear c0 x1 hvh
    go_wp2_with fail
    go_loopw [5] (fun i wr => ∃ k : Nat, i = .int .i64 k ∧ k ≤ al.length ∧ (∀ j, j < k → (al.getD j a0A).Good ss) ∧ Bel w wr ∧ wr.cell? ⟨w.heap.size, 0, none⟩ = some (.slice sa ss.length cap)) (fun i _ => al.length - (intOf i).toNat)
    case atStart => exact ⟨0, rfl, by omega, fun j hj => by omega, X1.out, C1.out⟩
    case round =>
      obtain ⟨k, rfl, hk, hgd, hB, c0⟩ := hrel
      by_cases hkn : k < al.length
      · obtain ⟨vS, vT, q0, q1, q2, q3, i1, i2⟩ := HA.out k hkn
        have q0 := Bel.box hB q0
        have q1 := Bel.box hB q1
        have q2 := Bel.box hB q2
        have q3 := Bel.box hB q3
        have i1 := ints_bel i1 hB.drew
        have i2 := ints_bel i2 hB.drew
        have hlen := hal _ (show al.getD k a0A ∈ al by rw [List.getD_eq_getElem?_getD, List.getElem?_eq_getElem hkn]; exact List.getElem_mem _)
        have HGD := hide (l4Good_any (H0.out.keep hB.drew) hl (al.getD k a0A).st i1 i2 (al.getD k a0A).off hlen.1 hlen.2)
        have HBB := hide hB
        have hno : Hid (¬ (al.getD k a0A).Good ss → firstL ss al = 2) := fun q => by
          rw [hf.out, if_neg (fun z => q (z _ (by rw [List.getD_eq_getElem?_getD, List.getElem?_eq_getElem hkn]; exact List.getElem_mem _)))]
        have hnx : Hid ((al.getD k a0A).Good ss → ∀ j, j < k + 1 → (al.getD j a0A).Good ss) := fun q j hj => by
          by_cases e : j = k
          · rw [e]; exact q
          · exact hgd j (by omega)
        have k0' : (0 : Int) ≤ (k : Int) := Int.natCast_nonneg _
        have k1 : (k : Int) < (al.length : Int) := by omega
        change Hid (Calls _ _ _ _ fun e w' => e = .returned (.bool (decide ((al.getD k a0A).Good ss))) ∧ Bel wr.drew w') at HGD
        generalize al.getD k a0A = a at q0 q1 q2 q3 HGD hno hnx
        obtain ⟨st, xs, sv, off⟩ := a
        simp only at q0 q1 q2 q3 HGD
        clear hgd hB i1 i2 hlen
        by_cases hq : Ar.Good ss ⟨st, xs, sv, off⟩
        · rw [decide_eq_true hq] at HGD
          go_wp2_with fail
          go_region_with (go_at_call 66; refine HGD.out.mono ?_; rintro e w2 ⟨rfl, hB2⟩)
          all_goals
            have HB3 : Hid (Bel w w2) := Below.trans HBB.out.drew (hB2.mono (HBB.out.drew).size)
            have c2 : w2.cell? ⟨w.heap.size, 0, none⟩ = some (.slice sa ss.length cap) := Bel.box hB2 c0
            clear hB2
            go_wp2_with fail
            go_roundw
            · exact ⟨k + 1, by go_num, by omega, hnx.out hq, HB3.out, c2⟩
            · simp [intOf]; omega
        · rw [decide_eq_false hq] at HGD
          go_wp2_with fail
          go_region_with (go_at_call 66; refine HGD.out.mono ?_; rintro e w2 ⟨rfl, hB2⟩)
          all_goals
            have HB3 : Hid (Bel w w2) := Below.trans HBB.out.drew (hB2.mono (HBB.out.drew).size)
            clear hB2
            go_wp2
            go_ret
            exact ⟨by rw [hno.out hq]; rfl, HB3.out⟩
      · have hkk : k = al.length := by omega
        subst hkk
        have hd : Hid (firstL ss al = 0) := by
          show _ = _
          rw [hf.out, if_pos (fun a ha => by
            obtain ⟨j, hj, e⟩ := List.mem_iff_getElem.1 ha
            have := hgd j hj
            rw [List.getD_eq_getElem?_getD, List.getElem?_eq_getElem hj] at this
            rw [← e]; exact this)]
        go_wp2
        go_ret
        exact ⟨by rw [hd.out]; rfl, hB⟩
end Go.Proofs.YtfhcpicddegblaaGreat
