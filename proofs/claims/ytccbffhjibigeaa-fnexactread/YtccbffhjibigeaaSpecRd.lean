import Derived.Test.YtccbffhjibigeaaFlatC
import Derived.Test.YtccbffhjibigeaaOffsIn
import Derived.Deep.AppendLies
import Derived.Deep.RegionHeld3
namespace Go.Proofs.Ytccbffhjibigeaa
open Go.ChangeShapes Go.RowKit FL
set_option linter.unusedSimpArgs false
set_option linter.unusedVariables false

def RdRel (w2 : World) (g0 : Nat) (f : Int → C3) (L : List Int) (o i : Value) (wr : World) : Prop := ∃ m : Nat, i = .int .i64 m ∧ m ≤ L.length ∧ wr.ownsRow g0 59 3 o m (flat ((L.take m).map f)) ∧ (o.ownBlock = some g0 ∨ ∃ k, o.ownBlock = some k ∧ w2.heap.size ≤ k) ∧ w2.grownBy wr (some g0)
theorem take_more (f : Int → C3) (L : List Int) (m : Nat) (hm : m < L.length) : (L.take (m + 1)).map f = (L.take m).map f ++ [f (L.getD m 0)] := by
  rw [List.take_add_one, List.map_append, List.getD_eq_getElem?_getD, List.getElem?_eq_getElem hm]
  rfl

set_option maxRecDepth 100000 in
set_option maxHeartbeats 4000000 in
theorem l4Read_any {w : World} {v vS vT : Value} {ss : List St} {xs sv : List Int} (h : SV w v ss) (hl : SL ss 1048576) (st : Int) (hS : Ints w vS xs) (hT : Ints w vT sv) (off : Int) (hG : GoodA ss st xs sv off) :
    Calls Try.prog 34 #[.agg #[v], .int .i64 st, .agg #[vS, vT, .int .i64 off]] w fun e w' => CellsOk w (readL ss st xs sv off) e w' := by
  obtain ⟨i59, hi59, hy0, hy1, hy2⟩ := info_parts info59
  obtain ⟨sa, cap, rfl, hx⟩ := h
  have h : SV w (.slice sa ss.length cap) ss := ⟨sa, cap, rfl, hx⟩
  have n1 := fun j => new_cell w #[.slice sa ss.length cap] 29 w.heap.size rfl j
  generalize hW1 : (w.alloc (.cells #[.slice sa ss.length cap] 29)).alloc (.cells #[vS, vT, .int .i64 off] 40) = W1
  have x1 : Ext w W1 := by rw [← hW1]; exact ((Ext.refl w).alloc _ _).alloc _ _
  have hs1 : W1.heap.size = w.heap.size + 1 + 1 := by rw [← hW1]; simp
  have c1 : W1.cell? ⟨w.heap.size, 0, none⟩ = some (.slice sa ss.length cap) := by rw [← hW1]; exact ((Ext.refl _).alloc _ _).box (n1 0)
  have y0 : Ext W1 (W1.alloc (.cells #[] 59)) := (Ext.refl _).alloc _ _
  have x0 : Ext w (W1.alloc (.cells #[] 59)) := x1.trans y0
  have C0 : Hid ((W1.alloc (.cells #[] 59)).cell? ⟨w.heap.size, 0, none⟩ = some (.slice sa ss.length cap)) := y0.box c1
  have O0 : Hid ((W1.alloc (.cells #[] 59)).ownsRow (w.heap.size + 1 + 1) 59 3 (.slice (some ⟨w.heap.size + 1 + 1, 0, none⟩) 0 0) 0 []) := by
    have := World.ownsRow_made (base := w.heap.size + 1 + 1) (e := 59) (size := 3) W1 #[] 0 (by omega) (by unfold maxLen; omega) (by simp)
    rw [hs1] at this
    exact this
  have X0 := hide x0
  have HH := hide h
  have HS := hide (hS.ext x0)
  have HT := hide (hT.ext x0)
  have hl1 := hl.1
  have hsW : (W1.alloc (.cells #[] 59)).heap.size = w.heap.size + 3 := by simp; omega
  clear hx h x0 y0 n1 c1 x1 hs1
  obtain ⟨s1, d1, rfl, _⟩ := hS
  obtain ⟨s2, d2, rfl, _⟩ := hT
  obtain ⟨⟨hk0, hk1⟩, hv, hin⟩ := hG
  obtain ⟨k, rfl⟩ : ∃ k : Nat, st = (k : Int) := ⟨st.toNat, by omega⟩
  have hk : k < ss.length := by omega
  have hL : Hid (readL ss k xs sv off = (offsL xs sv off).map fun p => (ss.getD k s0).2.getD p.toNat k0) := by show readL ss k xs sv off = _; unfold readL; rw [Int.toNat_natCast]
  rw [Int.toNat_natCast] at hin
  have hoff := hide (l2Offsets_any HS.out HT.out off hv)
  have hOl := offs_len hv
  have hon : Hid (∀ p ∈ offsL xs sv off, 0 ≤ p ∧ p < ((ss.getD k s0).2.length : Int)) := fun p hp => ⟨(offs_in hv p hp).1, hin p hp⟩
  clear hin hv
  generalize hW0 : W1.alloc (.cells #[] 59) = W0 at C0 O0 X0 HS HT hoff hsW
  subst hW1
  have HW0 := hide hW0
  clear hW0
  go_enter Try.func34, Try.ntmps34
  go_wp2_with fail
  rw [HW0.out]
  refine hoff.out.mono ?_
  rintro e w2 ⟨so, co, rfl, hO, x2⟩
  have HO := hide hO
  have HX2 := hide x2
  have c2' := Bel.box x2 C0.out
  have O2 : Hid (w2.ownsRow (w.heap.size + 1 + 1) 59 3 (.slice (some ⟨w.heap.size + 1 + 1, 0, none⟩) 0 0) 0 []) := O0.out.kept (row := none) ⟨x2.os, x2.tape, x2.output, x2.size, fun k hk _ => x2.block k hk⟩ (Or.inr (by intro e; cases e))
  have hs2 : w.heap.size + 3 ≤ w2.heap.size := by have := Below.size x2; omega
  have X2 := hide (Bel.tr X0.out.bl x2)
  clear x2 hO C0 O0 X0 HS HT hoff HW0
  obtain ⟨sb0, cb0, eb0, hrow0⟩ := HH.out
  injection eb0 with eb1 _ eb2
  subst eb1 eb2
  rcases hrow0 with h0 | ⟨bs, os, rfl, hrow⟩
  · rw [h0] at hk; simp at hk
  obtain ⟨q0, u, q1, q2⟩ := hrow k hk
  have hcl := hl.at k hk
  have Q2 := hide q2
  clear hrow q2
  obtain ⟨su, cu, rfl, _⟩ := Q2.out
  generalize (ss.getD k s0).1 = DT at q0
  generalize (ss.getD k s0).2 = cs at q1 Q2 hcl hL hon
  generalize offsL xs sv off = L at HO hOl hon hL ⊢
  have hb0 : bs < w.heap.size := cell_lt q1
  have q1 := Bel.box X2.out q1
  have hM8 : (4096 + 1) * 24 ≤ 140737488355328 := by omega
  go_wp2_with fail
  go_loopw [7, 9] (fun o i wr => RdRel w2 (w.heap.size + 1 + 1) (fun p => cs.getD p.toNat k0) L o i wr) (fun o i _ => L.length - (intOf i).toNat)
  case atStart => exact ⟨0, rfl, by omega, O2.out, Or.inl rfl, ⟨rfl, rfl, rfl, Nat.le_refl _, fun _ _ _ => rfl⟩⟩
  case round =>
    obtain ⟨m, rfl, hm, hown, hob, hgr⟩ := hrel
    have HOW := hide hown
    have HOB := hide hob
    have HGR := hide hgr
    clear hown hob hgr
    by_cases hml : m < L.length
    · rcases HO.out with h0 | ⟨g, rfl, hg1, hrowL, _⟩
      · rw [h0] at hml; simp at hml
      have hmem := hon.out (L.getD m 0) (by rw [List.getD_eq_getElem?_getD, List.getElem?_eq_getElem hml]; exact List.getElem_mem hml)
      have l0 := hrowL m hml
      rw [Nat.zero_add] at l0
      have hgl := cell_lt l0
      have HT2 := hide (take_more (fun p => cs.getD p.toNat k0) L m hml)
      obtain ⟨x, hxx⟩ : ∃ x : Nat, L.getD m 0 = (x : Int) := ⟨(L.getD m 0).toNat, by omega⟩
      rw [hxx] at l0 hmem HT2
      rw [Int.toNat_natCast] at HT2
      have hxl : x < cs.length := by omega
      rcases Q2.out with ⟨su2, cu2, e2, h0 | ⟨bc, oc, e3, hrowC⟩⟩
      · rw [h0] at hxl; simp at hxl
      injection e2 with e4 _ _
      subst e4
      subst e3
      have t0 := hrowC x hxl
      have t1 := t0.2.1
      have t2 := t0.2.2
      have t0 := t0.1
      have hbc := cell_lt t0
      have t0 := Bel.box X2.out t0
      have t1 := Bel.box X2.out t1
      have t2 := Bel.box X2.out t2
      generalize cs.getD x k0 = cx at t0 t1 t2 HT2
      obtain ⟨A, B, C⟩ := cx
      clear hrowC hrowL hxx
      have hsr := HGR.out.size
      have s0' := grown_box HGR.out (by omega) c2'
      have s1' := grown_box HGR.out (by omega) q1
      have s2' := grown_box HGR.out (by omega) l0
      have s3' := grown_box HGR.out (by omega) t0
      have s4' := grown_box HGR.out (by omega) t1
      have s5' := grown_box HGR.out (by omega) t2
      have hm0 : (0 : Int) ≤ (m : Int) := Int.natCast_nonneg _
      have hm1 : (m : Int) < (L.length : Int) := by omega
      have hx0 : (0 : Int) ≤ (x : Int) := Int.natCast_nonneg _
      have hx1 : (x : Int) < (cs.length : Int) := by omega
      have SA : Hid ((fun w' => w'.cell? ⟨w.heap.size, 0, none⟩ = some (.slice (some ⟨bs, os, none⟩) ss.length cap) ∧ w'.cell? ⟨bs, os + k * 2 + 1, none⟩ = some (.slice (some ⟨bc, oc, none⟩) cs.length cu) ∧ w'.cell? ⟨g, m, none⟩ = some (.int .i64 (x : Int)) ∧ w'.cell? ⟨bc, oc + x * 3, none⟩ = some (.int .i64 A) ∧ w'.cell? ⟨bc, oc + x * 3 + 1, none⟩ = some (.float .f64 B) ∧ w'.cell? ⟨bc, oc + x * 3 + 2, none⟩ = some (.float .f64 C)) wr.drew) := ⟨s0', s1', s2', s3', s4', s5'⟩
      have hS : Hid (∀ W : World, w2.grownBy W (some (w.heap.size + 1 + 1)) → (fun w' => w'.cell? ⟨w.heap.size, 0, none⟩ = some (.slice (some ⟨bs, os, none⟩) ss.length cap) ∧ w'.cell? ⟨bs, os + k * 2 + 1, none⟩ = some (.slice (some ⟨bc, oc, none⟩) cs.length cu) ∧ w'.cell? ⟨g, m, none⟩ = some (.int .i64 (x : Int)) ∧ w'.cell? ⟨bc, oc + x * 3, none⟩ = some (.int .i64 A) ∧ w'.cell? ⟨bc, oc + x * 3 + 1, none⟩ = some (.float .f64 B) ∧ w'.cell? ⟨bc, oc + x * 3 + 2, none⟩ = some (.float .f64 C)) W) := fun W hW => ⟨grown_box hW (by omega) c2', grown_box hW (by omega) q1, grown_box hW (by omega) l0, grown_box hW (by omega) t0, grown_box hW (by omega) t1, grown_box hW (by omega) t2⟩
      have HGA := hide (grown_drew (grown_alloc HGR.out (.cells #[.int .i64 A, .float .f64 B, .float .f64 C] 59)))
      have SB := hide (hS.out _ HGA.out)
      have hnews := World.news_of_block (w := (wr.alloc (.cells #[.int .i64 A, .float .f64 B, .float .f64 C] 59)).drew) (cs := #[.int .i64 A, .float .f64 B, .float .f64 C]) (t := 59) (fr := (0, 0)) (heap_alloc_new wr _)
      have HN := hide hnews
      clear hnews
      have hbase : w.heap.size + 1 + 1 ≤ ((wr.alloc (.cells #[.int .i64 A, .float .f64 B, .float .f64 C] 59)).drew).heap.size := by show _ ≤ (wr.alloc _).heap.size; simp; omega
      have hH : ((wr.alloc (.cells #[.int .i64 A, .float .f64 B, .float .f64 C] 59)).drew).heap.size = wr.heap.size + 1 := by show (wr.alloc _).heap.size = _; simp
      have h63 : m + 1 ≤ maxLen := by unfold maxLen; omega
      have h24 : (m + 1) * 24 ≤ 140737488355328 := by omega
      go_wp2_with fail
      go_region_held3 (fun w' => w'.cell? ⟨w.heap.size, 0, none⟩ = some (.slice (some ⟨bs, os, none⟩) ss.length cap) ∧ w'.cell? ⟨bs, os + k * 2 + 1, none⟩ = some (.slice (some ⟨bc, oc, none⟩) cs.length cu) ∧ w'.cell? ⟨g, m, none⟩ = some (.int .i64 (x : Int)) ∧ w'.cell? ⟨bc, oc + x * 3, none⟩ = some (.int .i64 A) ∧ w'.cell? ⟨bc, oc + x * 3 + 1, none⟩ = some (.float .f64 B) ∧ w'.cell? ⟨bc, oc + x * 3 + 2, none⟩ = some (.float .f64 C)) (first | with_reducible exact SA.out | with_reducible exact SB.out | with_reducible exact SC.out | exact SA.out | exact SB.out | exact SC.out | fail) ((refine step_append_lies _ (by rfl) (.tmp 19) (.tmp 32) 46 (by rfl) (w.heap.size + 1 + 1) 59 i59 (.agg #[.int .i64 0, .float .f64 0, .float .f64 0]) 3 24 Try.underlying46 hi59 hy0 hy1 hy2 rfl (by omega) _ m _ (by rfl) ((HOW.out.alloc _).drew) ⟨wr.heap.size, 0, none⟩ 1 1 (c3v (A, B, C)) (by rfl) (by rfl) HN.out (c3v_one _) (by omega) h63 h24 hbase (wr.heap.size + 1) hH ?_; intro g9 cap9 w9 hown9 hgrow9 hat9 hlt9; have HG9 := hide (grown_more HGA.out hgrow9 HOB.out); have SC := hide (hS.out _ HG9.out); have HO9 := hide hown9; have HA9 := hide hat9; clear hown9 hgrow9 hat9))
      go_wp2
      go_roundw
      · refine ⟨m + 1, by go_num, by omega, ?_, ?_, HG9.out⟩
        · rw [HT2.out, flat_one]
          exact HO9.out
        · rcases HA9.out with e | e
          · rcases HOB.out with q | ⟨z, q, hz⟩
            · exact Or.inl (by rw [← q, e]; rfl)
            · exact Or.inr ⟨z, by rw [← q, e]; rfl, hz⟩
          · exact Or.inr ⟨g9, rfl, by omega⟩
      · simp [intOf]; omega
    · have hmm : m = L.length := by omega
      subst hmm
      have H1 := HOW.out
      rw [List.take_length] at H1
      obtain ⟨sz, cz, rfl, ho⟩ := own_cells (lo := w.heap.size) (by omega) H1
      have HB : Bel w wr := ⟨HGR.out.os.trans X2.out.os, HGR.out.tape.trans X2.out.tape, HGR.out.output.trans X2.out.output, Nat.le_trans X2.out.size HGR.out.size, fun j hj => (HGR.out.block j (Nat.lt_of_lt_of_le hj X2.out.size) (fun e => by cases e; omega)).trans (X2.out.block j hj)⟩
      have HHo := hide ho
      have HHB := hide HB
      clear ho H1 HB
      go_wp2
      go_ret
      rw [hL.out]
      exact ⟨sz, cz, rfl, HHo.out, HHB.out⟩
end Go.Proofs.Ytccbffhjibigeaa
