import Derived.Test.YtdmbpkcjladhdaaGreatDoorFcH
import Derived.Deep.RegionWith
namespace Go.Proofs.YtdmbpkcjladhdaaGreatDoor
open Go.RowKit FL Ieee
set_option linter.unusedSimpArgs false
set_option linter.unusedVariables false

set_option maxRecDepth 100000 in
set_option maxHeartbeats 1000000 in
theorem pc_cpx (L A B : List UInt8) (fd : Bool) (hl : L.length ≤ 1000) (hcut : Lib.cut L [44] = (A, B, fd)) (x y : Nat) (good : Bool) (m : Int) (w : World) (hm : w.cell? ⟨2, 0, none⟩ = some (.int .i64 m))
    (pa : ∀ w, w.cell? ⟨2, 0, none⟩ = some (.int .i64 m) → Calls Tryz.prog 35 #[str A] w fun e w' => e = .returned (.tuple #[.float .f64 x, .bool good]) ∧ Below w.heap.size w w')
    (pb : ∀ w, w.cell? ⟨2, 0, none⟩ = some (.int .i64 m) → Calls Tryz.prog 35 #[str B] w fun e w' => e = .returned (.tuple #[.float .f64 y, .bool good]) ∧ Below w.heap.size w w') :
    Calls Tryz.prog 19 #[.int .i64 9, str L] w fun e w' => POk good (fun i' f' g' => i' = 0 ∧ f' = x ∧ g' = y) w e w' := by
  have kd := kindOf_any 9
  have hk : kindL 9 = 3 := by decide
  rw [hk] at kd
  have R0 := RC.new w 0 0 0 25
  have A0 : Below w.heap.size w (w.alloc (.cells #[.int .i64 0, .float .f64 0, .float .f64 0] 25)) := (Below.refl _ w).alloc (Nat.le_refl _) _
  have ct := cut_any L A B 44 fd ⟨#[44]⟩ rfl hcut hl m _ (below_cell A0 hm)
  generalize str L = U at *
  generalize str A = UA at *
  generalize str B = UB at *
  have gg : (if good = true then Value.bool good else Value.bool false) = Value.bool good := by cases good <;> rfl
  go_enter Tryz.func19, Tryz.ntmps19
  go_wp2_with (first | (go_at_call 25; refine (kd _).mono ?_; rintro e w1 ⟨rfl, hw1⟩; obtain rfl := hw1.symm) | (go_at_call 37; refine ct.mono ?_; rintro e w2 ⟨rfl, n, hw2⟩; have B2 : Below (w.alloc (.cells #[.int .i64 0, .float .f64 0, .float .f64 0] 25)).heap.size (w.alloc (.cells #[.int .i64 0, .float .f64 0, .float .f64 0] 25)) w2 := (by rw [hw2]; exact below_drewN (Below.refl _ _) n); clear hw2; refine Hid.out ?_))
  refine hide ?_
  have R2 := R0.keep B2
  have A2 : Below w.heap.size w w2 := A0.trans (B2.mono A0.size)
  have p2 := pa _ (below_cell A2 hm)
  clear B2 R0 ct
  go_wp2_with (go_at_call 35; refine p2.mono ?_; rintro e w3 ⟨rfl, x3⟩; refine Hid.out ?_)
  refine hide ?_
  have R3 := R2.keep x3
  have A3 : Below w.heap.size w w3 := A2.trans (x3.mono A2.size)
  have p3 := pb _ (below_cell A3 hm)
  clear x3 R2 p2
  go_wp2_with (go_at_call 35; refine p3.mono ?_; rintro e w4 ⟨rfl, x4⟩; refine Hid.out ?_)
  refine hide ?_
  have R4 := R3.keep x4
  have A4 : Below w.heap.size w w4 := A3.trans (x4.mono A3.size)
  clear x4 R3 p3 pa pb
  go_wp2_with (go_at_call 38; refine (complexCell_any x y _).mono ?_; rintro e w5 ⟨rfl, x5⟩; refine Hid.out ?_)
  refine hide ?_
  have R5 := R4.keep x5.bl
  have A5 : Below w.heap.size w w5 := A4.trans (x5.bl.mono A4.size)
  have RS := R5.set 0 x y
  obtain ⟨q0, q1, q2, qf⟩ := R5
  have AS : Below w.heap.size w (((w5.setCell ⟨w.heap.size, 0, none⟩ (.int .i64 0)).setCell ⟨w.heap.size, 1, none⟩ (.float .f64 x)).setCell ⟨w.heap.size, 2, none⟩ (.float .f64 y)) := ((A5.setCell (Nat.le_refl _) _).setCell (Nat.le_refl _) _).setCell (Nat.le_refl _) _
  obtain ⟨s0, s1, s2, sf⟩ := RS
  have S0 := hide s0
  have S1 := hide s1
  have S2 := hide s2
  clear x5 R4 s0 s1 s2 sf
  cases good
  all_goals go_wp2
  all_goals
    have s0 := S0.out
    have s1 := S1.out
    have s2 := S2.out
  · exact bodyPost_ret (v := .tuple #[.agg #[.int .i64 0, .float .f64 x, .float .f64 y], .bool false]) (by simp [results, Tryz.results19, go_sem, s0, s1, s2]) rfl ⟨0, x, y, rfl, ⟨rfl, rfl, rfl⟩, AS⟩
  · exact bodyPost_ret (v := .tuple #[.agg #[.int .i64 0, .float .f64 x, .float .f64 y], .bool true]) (by simp [results, Tryz.results19, go_sem, s0, s1, s2]) rfl ⟨0, x, y, rfl, ⟨rfl, rfl, rfl⟩, AS⟩

set_option maxRecDepth 100000 in
set_option maxHeartbeats 1000000 in
theorem pc_int (dt : Int) (hk2 : kindL dt ≠ 2) (hk3 : kindL dt ≠ 3) (L : List UInt8) (n : Int) (hn : I64 n) (hv : validB dt n 0 0 = true) (w : World)
    (pi : ∀ w, Calls Tryz.prog 39 #[str L] w fun e w' => e = .returned (.tuple #[.int .i64 n, .bool true]) ∧ Below w.heap.size w w') :
    Calls Tryz.prog 19 #[.int .i64 dt, str L] w fun e w' => POk true (fun i' f' g' => i' = n ∧ f' = 0 ∧ g' = 0) w e w' := by
  have kd := kindOf_any dt
  generalize kindL dt = k at *
  have e2 : (k == 2) = false := by rw [beq_eq_false_iff_ne]; exact hk2
  have e3 : (k == 3) = false := by rw [beq_eq_false_iff_ne]; exact hk3
  have iv := iValid_any dt n 0 0 hn B64_0 B64_0
  rw [hv] at iv
  have R0 := RC.new w 0 0 0 25
  have A0 : Below w.heap.size w (w.alloc (.cells #[.int .i64 0, .float .f64 0, .float .f64 0] 25)) := (Below.refl _ w).alloc (Nat.le_refl _) _
  clear hk2 hk3 hv
  generalize str L = U at *
  go_enter Tryz.func19, Tryz.ntmps19
  go_wp2_with (first | (go_at_call 25; refine (kd _).mono ?_; rintro e w1 ⟨rfl, hw1⟩; obtain rfl := hw1.symm) | (go_at_call 39; refine (pi _).mono ?_; rintro e w2 ⟨rfl, x2⟩; refine Hid.out ?_))
  refine hide ?_
  have R2 := R0.keep x2
  have A2 : Below w.heap.size w w2 := A0.trans (x2.mono A0.size)
  clear x2 R0 pi
  have zl : w.heap.size < w2.heap.size := cell_lt R2.c0
  have N2 := RC.new w2 n 0 0 25
  have R3 := R2.keep ((Below.refl w2.heap.size w2).alloc (o := .cells #[.int .i64 n, .float .f64 0, .float .f64 0] 25) (Nat.le_refl _))
  have A3 : Below w.heap.size w (w2.alloc (.cells #[.int .i64 n, .float .f64 0, .float .f64 0] 25)) := A2.alloc A2.size _
  go_wp2_with fail
  go_region_with (go_at_call 11; refine (iv _).mono ?_; rintro e w3 ⟨rfl, x3⟩; have k0 := x3.box (b := w2.heap.size) (o := 0) (v := .int .i64 n) (by simp); have k1 := x3.box (b := w2.heap.size) (o := 1) (v := .float .f64 0) (by simp); have k2 := x3.box (b := w2.heap.size) (o := 2) (v := .float .f64 0) (by simp); have q0 := x3.box (b := w.heap.size) (o := 0) (v := .int .i64 0) R3.c0; have q1 := x3.box (b := w.heap.size) (o := 1) (v := .float .f64 0) R3.c1; have q2 := x3.box (b := w.heap.size) (o := 2) (v := .float .f64 0) R3.c2; have qf : ∀ o, w3.frozen? ⟨w.heap.size, o, none⟩ = false := (fun o => (x3.fz _).trans (R3.fz o)))
  all_goals go_wp2
  all_goals
    obtain ⟨s0, s1, s2, _⟩ := (show RC w.heap.size w3 0 0 0 from ⟨q0, q1, q2, qf⟩).set n 0 0
    have A4 : Below w.heap.size w w3 := by first | exact A3.trans (x3.bl.mono A3.size) | exact A3.drew.trans (x3.bl.mono A3.size) | exact A3.drew.drew.trans (x3.bl.mono A3.size) | exact A3.drew.drew.drew.trans (x3.bl.mono A3.size) | exact A3.drew.drew.drew.drew.trans (x3.bl.mono A3.size) | exact A3.drew.drew.drew.drew.drew.trans (x3.bl.mono A3.size) | exact A3.drew.drew.drew.drew.drew.drew.trans (x3.bl.mono A3.size)
    have AS : Below w.heap.size w (((w3.setCell ⟨w.heap.size, 0, none⟩ (.int .i64 n)).setCell ⟨w.heap.size, 1, none⟩ (.float .f64 0)).setCell ⟨w.heap.size, 2, none⟩ (.float .f64 0)) := ((A4.setCell (Nat.le_refl _) _).setCell (Nat.le_refl _) _).setCell (Nat.le_refl _) _
    exact bodyPost_ret (v := .tuple #[.agg #[.int .i64 n, .float .f64 0, .float .f64 0], .bool true]) (by simp [results, Tryz.results19, go_sem, s0, s1, s2]) rfl ⟨n, 0, 0, rfl, ⟨rfl, rfl, rfl⟩, by first | exact AS | exact AS.drew | exact AS.drew.drew | exact AS.drew.drew.drew | exact AS.drew.drew.drew.drew⟩

set_option maxRecDepth 100000 in
set_option maxHeartbeats 1000000 in
theorem pc_none (dt : Int) (hk2 : kindL dt ≠ 2) (hk3 : kindL dt ≠ 3) (L : List UInt8) (w : World)
    (pi : ∀ w, Calls Tryz.prog 39 #[str L] w fun e w' => e = .returned (.tuple #[.int .i64 0, .bool false]) ∧ w' = w) :
    Calls Tryz.prog 19 #[.int .i64 dt, str L] w fun e w' => POk false (fun i' f' g' => True) w e w' := by
  have kd := kindOf_any dt
  generalize kindL dt = k at *
  have e2 : (k == 2) = false := by rw [beq_eq_false_iff_ne]; exact hk2
  have e3 : (k == 3) = false := by rw [beq_eq_false_iff_ne]; exact hk3
  have R0 := RC.new w 0 0 0 25
  have A0 : Below w.heap.size w (w.alloc (.cells #[.int .i64 0, .float .f64 0, .float .f64 0] 25)) := (Below.refl _ w).alloc (Nat.le_refl _) _
  clear hk2 hk3
  generalize str L = U at *
  go_enter Tryz.func19, Tryz.ntmps19
  go_wp2_with (first | (go_at_call 25; refine (kd _).mono ?_; rintro e w1 ⟨rfl, hw1⟩; obtain rfl := hw1.symm) | (go_at_call 39; refine (pi _).mono ?_; rintro e w2 ⟨rfl, hw2⟩; obtain rfl := hw2.symm))
  go_region
  all_goals go_wp2
  all_goals exact bodyPost_ret (v := .tuple #[.agg #[.int .i64 0, .float .f64 0, .float .f64 0], .bool false]) (by simp [results, Tryz.results19, go_sem]) rfl ⟨0, 0, 0, rfl, trivial, (A0.alloc A0.size _).drew⟩
end Go.Proofs.YtdmbpkcjladhdaaGreatDoor
