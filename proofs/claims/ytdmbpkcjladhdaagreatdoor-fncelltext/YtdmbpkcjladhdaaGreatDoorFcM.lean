import Derived.Test.YtdmbpkcjladhdaaGreatDoorFcL
namespace Go.Proofs.YtdmbpkcjladhdaaGreatDoor
open Go.RowKit FL Ieee
set_option linter.unusedSimpArgs false
set_option linter.unusedVariables false

theorem run_f31 (w : World) (c i : Int) (f g : Nat) : (Instr.field 31 (.agg #[.int .i64 c, .int .i64 i, .float .f64 f, .float .f64 g]) 0).run Tryz.prog w = .ok (.int .i64 c) w := by
  simp [Instr.field, run_underlying Tryz.underlying31, run_underlying Tryz.underlying25, run_underlying Tryz.underlying2, go_sem, part, isAgg, asAgg]

theorem itoa_ne (n : Int) : 0 < (Lib.itoa n).length := by
  unfold Lib.itoa
  split
  · simp
  · have := Lib.decDigits_length n.toNat
    have := Lib.nDigits_pos n.toNat
    omega
theorem fltT_ne (x : Nat) (hx : B64 x) : 0 < (fltT x).length := by
  rcases fltT_word x hx with ⟨g1, g2⟩ | ⟨g1, neg, r, g3, g4, g5, g6⟩
  · rw [g2]; exact List.length_pos_iff.2 g1
  · rw [g6]
    unfold posT
    simp only [List.length_append]
    have := itoa_ne ((cOf (bigR double r) : Nat) : Int)
    omega
theorem cellT_ne (dt i : Int) (f g : Nat) (hf : B64 f) : 0 < (cellT dt i f g).length := by
  unfold cellT
  have := fltT_ne f hf
  split
  · exact this
  · split
    · simp only [List.length_append]; omega
    · exact itoa_ne i

def LawOk (w : World) (e : Ending) (w' : World) : Prop := e = .returned (.bool true) ∧ Below w.heap.size w w'

attribute [local go_sem] run_f31

set_option maxRecDepth 100000 in
set_option maxHeartbeats 1000000 in
theorem lawCT (w : World) (sa : Option Addr) (len cap : Nat) (hcode : Code w (.slice sa len cap) len) (hlen : ¬ (1048576 : Int) < (len : Int)) (hT : Tabs w.heap.size w) (m : Int) (hm : w.cell? ⟨2, 0, none⟩ = some (.int .i64 m)) :
    Calls Tryz.prog 3 #[.slice sa len cap] w fun e w' => LawOk w e w' := by
  have dr := drawFormat_any hcode
  go_enter Tryz.func3, Tryz.ntmps3
  go_wp2_with (go_at_call 4; refine dr.mono ?_; rintro e w1 ⟨dt, i, f, g, rfl, ⟨hi, hf, hg⟩, A1⟩; refine Hid.out ?_)
  refine hide ?_
  clear dr hcode
  have N1 := RC.new w1 i f g 25
  have A1' : Below w.heap.size w (w1.alloc (.cells #[.int .i64 i, .float .f64 f, .float .f64 g] 25)) := A1.alloc A1.size _
  have T1 : Tabs (w1.alloc (.cells #[.int .i64 i, .float .f64 f, .float .f64 g] 25)).heap.size (w1.alloc (.cells #[.int .i64 i, .float .f64 f, .float .f64 g] 25)) := (hT.on A1').up A1'.size
  have fm := iFmt_any _ dt i f g hi hf hg _ (Nat.le_refl _) T1
  have sv := sValid_any dt i f g hf hg
  have hfl := fmtT_len dt i f g hi hf hg
  go_wp2_with (go_at_call 5; refine fm.mono ?_; rintro e w2 ⟨v2, rfl, o2, x2⟩; refine Hid.out ?_)
  refine hide ?_
  have N2 := N1.keep x2
  have A2 : Below w.heap.size w w2 := A1'.trans (x2.mono A1'.size)
  clear fm T1 N1 A1' x2
  have p0 := N2.c0
  have p1 := N2.c1
  have p2 := N2.c2
  go_wp2_with (go_at_call 6; refine (sv _).mono ?_; rintro e w3 ⟨rfl, x3⟩; refine Hid.out ?_)
  refine hide ?_
  have N3 := N2.keep x3.bl
  have A3 : Below w.heap.size w w3 := A2.trans (x3.bl.mono A2.size)
  have o3 := own_bel o2 x3.bl
  have m3 := below_cell A3 hm
  clear N2 p0 p1 p2 x3 o2 A2 sv
  cases hv : validB dt i f g
  · have hL : fmtT dt i f g = [] := by unfold fmtT; rw [if_neg (by rw [hv]; decide)]
    rw [hL] at o3
    obtain ⟨s3, c3, rfl⟩ := own_len o3
    have cv := conv_own (own_bel o3 ((Below.refl w3.heap.size w3).alloc (o := .cells #[.int .i64 0, .int .i64 0, .float .f64 0, .float .f64 0] 31) (Nat.le_refl _)))
    have pc := ParseCell_any dt (.slice s3 ([] : List UInt8).length c3) [] false (fun _ _ _ => True) w3 m m3 cv (fun w hm => parseCell_empty dt m w hm)
    have pc2 : Calls Tryz.prog 7 #[.int .i64 dt, .slice s3 0 c3] w3 fun e w' => QOk false (fun _ _ _ => True) w3 e w' := pc
    clear pc cv o3 hL hfl
    go_wp2_with (go_at_call 7; refine pc2.mono ?_; rintro e w4 ⟨i', f', g', rfl, _, x4⟩)
    go_ret
    exact ⟨rfl, A3.trans (x4.mono A3.size)⟩
  · have hL : fmtT dt i f g = cellT dt i f g := by unfold fmtT; rw [if_pos hv]
    rw [hL] at o3 hfl
    have hpos := cellT_ne dt i f g hf
    have pv := fun w hm => parseCell_valid dt i f g hi hf hg hv m w hm
    generalize cellT dt i f g = L at *
    obtain ⟨s3, c3, rfl⟩ := own_len o3
    have cv := conv_own o3
    have cb := conv_bytes L w3
    have gl : decide ((0 : Int) < (L.length : Int)) = true := by simp; omega
    generalize hcap : grownCap w3 L.length 0 5 = cp at cb
    have Hcap := hide hcap
    generalize hfz : ((bytesRow ⟨L.toArray⟩ cp).size, (bytesRow ⟨L.toArray⟩ cp).size + 1) = fz at cb
    have A4 : Below w.heap.size w (w3.alloc (.cells (bytesRow ⟨L.toArray⟩ cp) 5 fz)).drew := (A3.alloc A3.size _).drew
    have N4 := N3.keep (((Below.refl w3.heap.size w3).alloc (o := .cells (bytesRow ⟨L.toArray⟩ cp) 5 fz) (Nat.le_refl _)).drew)
    have m4 := below_cell A4 hm
    have cn := conv_new L w3 ((w3.alloc (.cells (bytesRow ⟨L.toArray⟩ cp) 5 fz)).drew.alloc (.cells #[.int .i64 0, .int .i64 0, .float .f64 0, .float .f64 0] 31)) cp fz ((Below.refl _ _).alloc (by show w3.heap.size + 1 ≤ _; simp) _)
    have pc := ParseCell_any dt (.slice (some ⟨w3.heap.size, 0, none⟩) L.length cp) L true (Again i f g) _ m m4 cn pv
    clear pv cn hL o3 hcap hfz hv
    go_wp2_with (go_at_call 7; refine pc.mono ?_; rintro e w5 ⟨i', f', g', rfl, hA, x5⟩; refine Hid.out ?_)
    refine hide ?_
    have N5 := N4.keep x5
    have A5 : Below w.heap.size w w5 := A4.trans (x5.mono A4.size)
    have lw := lwSame_any i' i f' g' f g hA.2.1 hA.2.2.1 hf hg
    rw [hA.1] at lw
    have zl := cell_lt N5.c0
    have hne : w1.heap.size ≠ w5.heap.size := by omega
    have p0 := N5.c0
    have p1 := N5.c1
    have p2 := N5.c2
    clear x5 N4 N3 pc cv cb A4 m4 hA
    go_wp2_with (go_at_call 8; refine (lw _).mono ?_; rintro e w6 ⟨rfl, x6⟩)
    go_ret
    have A5' : Below w.heap.size w (w5.alloc (.cells #[.int .i64 0, .int .i64 i', .float .f64 f', .float .f64 g'] 31)) := A5.alloc A5.size _
    exact ⟨rfl, A5'.trans (x6.bl.mono A5'.size)⟩
end Go.Proofs.YtdmbpkcjladhdaaGreatDoor
