import Derived.Test.YtdmbpkcjladhdaaGreatDoorFcK
import Derived.Test.YtdmbpkcjladhdaaGreatDoorDrawB
namespace Go.Proofs.YtdmbpkcjladhdaaGreatDoor
open Go.RowKit FL Ieee
set_option linter.unusedSimpArgs false
set_option linter.unusedVariables false

def DrawnOk (w : World) (e : Ending) (w' : World) : Prop := ∃ (dt i : Int) (f g : Nat), e = .returned (.tuple #[.int .i64 dt, .agg #[.int .i64 i, .float .f64 f, .float .f64 g]]) ∧ CellOk i f g ∧ Below w.heap.size w w'

set_option maxRecDepth 100000 in
set_option maxHeartbeats 1000000 in
theorem drawFormat_any {w : World} {v : Value} {len : Nat} (h : Code w v len) : Calls Tryz.prog 4 #[v] w fun e w' => DrawnOk w e w' := by
  have x0 : Ext w (w.alloc (.cells #[.int .i64 0, .float .f64 0, .float .f64 0] 25)) := (Ext.refl w).alloc _ _
  have H := hide (h.ext x0)
  have R0 := RC.new w 0 0 0 25
  have A0 : Below w.heap.size w (w.alloc (.cells #[.int .i64 0, .float .f64 0, .float .f64 0] 25)) := x0.bl
  clear h x0
  go_enter Tryz.func4, Tryz.ntmps4
  go_wp2_with (go_at_call 10; refine (source_code H.out).mono ?_; rintro e w1 ⟨b, sv, n, mix, size, rfl, hs, hb, hB⟩; refine Hid.out ?_)
  refine hide ?_
  have R1 := R0.keep hB
  have A1 : Below w.heap.size w w1 := A0.trans (hB.mono A0.size)
  have hb' : w.heap.size + 1 ≤ b := by simpa using hb
  have hne : w.heap.size ≠ b := by omega
  have da := drawAny_any hs
  clear R0 H hs hB
  go_wp2_with (go_at_call 9; refine da.mono ?_; rintro e w2 ⟨dt, i, f, g, at2, mix2, rfl, hdt, ok1, s2, m2⟩; refine Hid.out ?_)
  refine hide ?_
  have R2 : RC w.heap.size w2 0 0 0 := ⟨m2.box hne R1.c0, m2.box hne R1.c1, m2.box hne R1.c2, fun o => (m2.fz _).trans (R1.fz o)⟩
  have A2 : Below w.heap.size w w2 := A1.trans ⟨m2.os, m2.tape, m2.output, m2.size, fun k hk => m2.block k (Nat.lt_of_lt_of_le hk A1.size) (by omega)⟩
  have RS := R2.set i f g
  have AS := hide (((A2.setCell (p := ⟨w.heap.size, 0, none⟩) (Nat.le_refl _) (.int .i64 i)).setCell (p := ⟨w.heap.size, 1, none⟩) (Nat.le_refl _) (.float .f64 f)).setCell (p := ⟨w.heap.size, 2, none⟩) (Nat.le_refl _) (.float .f64 g))
  obtain ⟨q0, q1, q2, qf⟩ := R2
  have HS := hide RS
  have Ok := hide ok1
  clear s2 m2 R1 RS da ok1 A0 A1 A2
  go_wp2
  obtain ⟨s0, s1, s2, sf⟩ := HS.out
  exact bodyPost_ret (v := .tuple #[.int .i64 dt, .agg #[.int .i64 i, .float .f64 f, .float .f64 g]]) (by simp [results, Tryz.results4, go_sem, s0, s1, s2]) rfl ⟨dt, i, f, g, rfl, Ok.out, AS.out⟩

theorem conv_nil (w : World) (sa : Option Addr) (cap : Nat) : (convert 22 9 (.slice sa 0 cap)).run Tryz.prog w = .ok (str []) w := by
  rw [run_convert_bytes_string w 22 9 5 sa 0 cap Tryz.underlying22 Tryz.underlying5 Tryz.underlying9]
  cases sa <;> rfl
theorem conv_own {w : World} {B : Nat} {v : Value} {L : List UInt8} (h : w.ownsRow B 5 1 v L.length (Lib.byteCells L)) : (convert 22 9 v).run Tryz.prog w = .ok (str L) w := by
  rcases h.2 with ⟨h1, h2⟩ | ⟨g, cap, cur, rfl, -, -, -⟩
  · have : L = [] := List.length_eq_zero_iff.1 h2
    subst h1 this
    exact conv_nil w none 0
  · exact run_convert_bytes_back (P := Tryz.prog) w 22 9 5 ⟨g, 0, none⟩ cap L Tryz.underlying22 Tryz.underlying5 Tryz.underlying9 (fun j hj => h.cells (g := g) rfl j _ (by simp [Lib.byteCells, hj]))
theorem own_bel {w w' : World} {B : Nat} {e : TypeId} {size : Nat} {v : Value} {n : Nat} {xs : List Value} (h : w.ownsRow B e size v n xs) (x : Below w.heap.size w w') : w'.ownsRow B e size v n xs := by
  obtain ⟨hl, h0 | ⟨g, cap, cur, hv, hb, hh, r⟩⟩ := h
  · exact ⟨hl, .inl h0⟩
  · have hg : g < w.heap.size := by
      by_cases e : g < w.heap.size
      · exact e
      · rw [Array.getElem?_eq_none (by omega)] at hh; cases hh
    exact ⟨hl, .inr ⟨g, cap, cur, hv, hb, by rw [x.block g hg]; exact hh, r⟩⟩
theorem own_len {w : World} {B : Nat} {v : Value} {L : List UInt8} (h : w.ownsRow B 5 1 v L.length (Lib.byteCells L)) : ∃ sa cap, v = .slice sa L.length cap := by
  rcases h.2 with ⟨h1, h2⟩ | ⟨g, cap, cur, rfl, -, -, -⟩
  · exact ⟨none, 0, by rw [h1, h2]⟩
  · exact ⟨_, _, rfl⟩
theorem conv_new (L : List UInt8) (W w : World) (cap : Nat) (fz : Nat × Nat) (h : Below (W.heap.size + 1) (W.alloc (.cells (bytesRow ⟨L.toArray⟩ cap) 5 fz)).drew w) :
    (convert 22 9 (.slice (some ⟨W.heap.size, 0, none⟩) L.length cap)).run Tryz.prog w = .ok (str L) w :=
  run_convert_bytes_back (P := Tryz.prog) w 22 9 5 ⟨W.heap.size, 0, none⟩ cap L Tryz.underlying22 Tryz.underlying5 Tryz.underlying9 (fun j hj => by
    rw [add_at, h.cell (p := ⟨W.heap.size, j, none⟩) (Nat.lt_succ_self _)]
    show (W.alloc _).cell? ⟨W.heap.size, j, none⟩ = _
    rw [cell_of_row _ W.heap.size j _ 5 fz (heap_alloc_new W _)]
    unfold bytesRow
    rw [Array.getElem?_append_left (by simpa using hj)]
    simp [hj])
end Go.Proofs.YtdmbpkcjladhdaaGreatDoor
