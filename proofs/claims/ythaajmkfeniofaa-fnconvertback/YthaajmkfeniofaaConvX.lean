import Derived.Test.YthaajmkfeniofaaConv15
import Derived.Test.YthaajmkfeniofaaOrderW
import Derived.Deep.RegionWith
namespace Go.Proofs.Ythaajmkfeniofaa
open Go.RowKit FL
set_option linter.unusedSimpArgs false
set_option linter.unusedVariables false
attribute [local go_sem] run_f38

/-- The cells of the region. -/
structure SC (w w1 w4 wr : World) (i : Int) (f g : Nat) (i1 : Int) (f1 g1 : Nat) : Prop where
  c0 : wr.cell? ⟨w1.heap.size, 0, none⟩ = some (.int .i64 i)
  c1 : wr.cell? ⟨w1.heap.size, 1, none⟩ = some (.float .f64 f)
  c2 : wr.cell? ⟨w1.heap.size, 2, none⟩ = some (.float .f64 g)
  x0 : wr.cell? ⟨w4.heap.size, 0, none⟩ = some (.int .i64 i1)
  x1 : wr.cell? ⟨w4.heap.size, 1, none⟩ = some (.float .f64 f1)
  x2 : wr.cell? ⟨w4.heap.size, 2, none⟩ = some (.float .f64 g1)
  cb : CB w w1 wr i f g
theorem SC.start {w w1 w4 wr : World} {i : Int} {f g : Nat} {i1 : Int} {f1 g1 : Nat} (c0 : wr.cell? ⟨w1.heap.size, 0, none⟩ = some (.int .i64 i)) (c1 : wr.cell? ⟨w1.heap.size, 1, none⟩ = some (.float .f64 f)) (c2 : wr.cell? ⟨w1.heap.size, 2, none⟩ = some (.float .f64 g))
    (x0 : wr.cell? ⟨w4.heap.size, 0, none⟩ = some (.int .i64 i1)) (x1 : wr.cell? ⟨w4.heap.size, 1, none⟩ = some (.float .f64 f1)) (x2 : wr.cell? ⟨w4.heap.size, 2, none⟩ = some (.float .f64 g1)) (cb : CB w w1 wr i f g) : SC w w1 w4 wr.drew i f g i1 f1 g1 :=
  ⟨c0, c1, c2, x0, x1, x2, cb.ext ((Ext.refl _).drew)⟩
theorem SC.ext {w w1 w4 wr w2 : World} {i : Int} {f g : Nat} {i1 : Int} {f1 g1 : Nat} (h : SC w w1 w4 wr i f g i1 f1 g1) (x : Ext wr w2) : SC w w1 w4 w2 i f g i1 f1 g1 :=
  ⟨x.box h.c0, x.box h.c1, x.box h.c2, x.box h.x0, x.box h.x1, x.box h.x2, h.cb.ext x⟩

set_option maxRecDepth 100000 in
set_option maxHeartbeats 16000000 in
theorem conv_law (w : World) (sa : Option Addr) (len cap : Nat) (hcode : Code w (.slice sa len cap) len) (hlen : ¬ (1048576 : Int) < (len : Int)) :
    Calls Try.prog 10 #[.slice sa len cap] w fun e w' => LawOk w e w' := by
  have Hc := hide hcode
  clear hcode
  go_enter Try.func10, Try.ntmps10
  go_wp2_with fail
  refine (drawConvert_any Hc.out).mono ?_
  rintro e w1 ⟨dt, to0, i, f, g, rfl, ⟨hi, hf, hg⟩, hB⟩
  have HB := hide hB
  clear hB
  have Hi := hide hi
  clear hi
  go_wp2_with fail
  refine (sValid_any _ _ _ _ hf hg _).mono ?_
  rintro e w2 ⟨rfl, x2⟩
  have p20 := x2.box (b := w1.heap.size) (o := 0) (v := .int .i64 i) (by first | assumption | (simp; done) | (simp [go_sem]; done))
  have p21 := x2.box (b := w1.heap.size) (o := 1) (v := .float .f64 f) (by first | assumption | (simp; done) | (simp [go_sem]; done))
  have p22 := x2.box (b := w1.heap.size) (o := 2) (v := .float .f64 g) (by first | assumption | (simp; done) | (simp [go_sem]; done))
  go_wp2_with fail
  refine (iValid_any _ _ _ _ Hi.out hf hg _).mono ?_
  rintro e w3 ⟨rfl, x3⟩
  have p30 := x3.box (b := w1.heap.size) (o := 0) (v := .int .i64 i) (by first | assumption | (simp; done) | (simp [go_sem]; done))
  have p31 := x3.box (b := w1.heap.size) (o := 1) (v := .float .f64 f) (by first | assumption | (simp; done) | (simp [go_sem]; done))
  have p32 := x3.box (b := w1.heap.size) (o := 2) (v := .float .f64 g) (by first | assumption | (simp; done) | (simp [go_sem]; done))
  have S0 : CB w w1 w3 i f g := ⟨below_ext HB.out (by repeat (first | with_reducible exact Ext.refl _ | with_reducible refine Ext.setCell ?_ (by simp; try omega) _ | with_reducible apply Ext.drewN | with_reducible apply Ext.drew | with_reducible apply Ext.alloc | refine Ext.trans ?_ (by assumption))), p30, p31, p32, by have := x2.bl.size; have := x3.bl.size; simp at *; omega⟩
  have HS0 := hide S0
  clear S0 p20 p21 p22 p30 p31 p32
  cases hv : validB dt i f g
  ·
    go_wp2
    go_loopw [7] (fun j wr => ∃ k : Int, j = .int .i64 k ∧ (1 ≤ k ∧ k ≤ 10) ∧ CB w w1 wr i f g) (fun j _ => (10 - intOf j).toNat)
    case atStart => exact ⟨1, rfl, ⟨by omega, by omega⟩, HS0.out⟩
    case round =>
      obtain ⟨k, rfl, ⟨hk1, hk2⟩, hS⟩ := hrel
      have HS := hide hS
      clear hS
      have c0 := HS.out.c0
      have c1 := HS.out.c1
      have c2 := HS.out.c2
      by_cases hk : k ≤ 9
      ·
        have ht : 1 ≤ k ∧ k ≤ 9 := ⟨hk1, hk⟩
        have HT := hide ht
        clear ht
        go_wp2_with fail
        refine (conv_any dt k i f g HT.out Hi.out hf hg _).mono ?_
        rintro e w4 ⟨i1, f1, g1, rfl, hR, x4⟩
        obtain ⟨hi1, hf1, hg1⟩ := conv_bits HT.out Hi.out hf hg hR
        have hv1 := conv_valid HT.out Hi.out hR
        have HI1 := hide hi1
        have HR := hide hR
        clear hR hi1
        have HS4 := hide (HS.out.ext x4)
        have p40 := x4.box (b := w1.heap.size) (o := 0) (v := .int .i64 i) (by first | assumption | (simp; done) | (simp [go_sem]; done))
        have p41 := x4.box (b := w1.heap.size) (o := 1) (v := .float .f64 f) (by first | assumption | (simp; done) | (simp [go_sem]; done))
        have p42 := x4.box (b := w1.heap.size) (o := 2) (v := .float .f64 g) (by first | assumption | (simp; done) | (simp [go_sem]; done))
        have ca : Ext w4 (w4.alloc (.cells #[.int .i64 i1, .float .f64 f1, .float .f64 g1] 29)) := (Ext.refl w4).alloc _ _
        have p50 := ca.box (b := w1.heap.size) (o := 0) (v := .int .i64 i) (by first | assumption | (simp; done) | (simp [go_sem]; done))
        have p51 := ca.box (b := w1.heap.size) (o := 1) (v := .float .f64 f) (by first | assumption | (simp; done) | (simp [go_sem]; done))
        have p52 := ca.box (b := w1.heap.size) (o := 2) (v := .float .f64 g) (by first | assumption | (simp; done) | (simp [go_sem]; done))
        have x50 : (w4.alloc (.cells #[.int .i64 i1, .float .f64 f1, .float .f64 g1] 29)).cell? ⟨w4.heap.size, 0, none⟩ = some (.int .i64 i1) := by simp
        have x51 : (w4.alloc (.cells #[.int .i64 i1, .float .f64 f1, .float .f64 g1] 29)).cell? ⟨w4.heap.size, 1, none⟩ = some (.float .f64 f1) := by simp
        have x52 : (w4.alloc (.cells #[.int .i64 i1, .float .f64 f1, .float .f64 g1] 29)).cell? ⟨w4.heap.size, 2, none⟩ = some (.float .f64 g1) := by simp
        have HS5 := hide (HS4.out.ext ca)
        clear ca
        cases hcs : castL dt k 0
        all_goals
          go_wp2_with fail
          refine (iCanCast_any _ _ _ _).mono ?_
          rintro e wz ⟨rfl, rfl⟩
          rw [hcs]
          go_wp2_with fail
          refine (sValid_any _ _ _ _ hf1 hg1 _).mono ?_
          rintro e w6 ⟨rfl, x6⟩
          have p60 := x6.box (b := w1.heap.size) (o := 0) (v := .int .i64 i) (by first | assumption | (simp; done) | (simp [go_sem]; done))
          have p61 := x6.box (b := w1.heap.size) (o := 1) (v := .float .f64 f) (by first | assumption | (simp; done) | (simp [go_sem]; done))
          have p62 := x6.box (b := w1.heap.size) (o := 2) (v := .float .f64 g) (by first | assumption | (simp; done) | (simp [go_sem]; done))
          have y60 := x6.box (b := w4.heap.size) (o := 0) (v := .int .i64 i1) (by first | assumption | (simp; done) | (simp [go_sem]; done))
          have y61 := x6.box (b := w4.heap.size) (o := 1) (v := .float .f64 f1) (by first | assumption | (simp; done) | (simp [go_sem]; done))
          have y62 := x6.box (b := w4.heap.size) (o := 2) (v := .float .f64 g1) (by first | assumption | (simp; done) | (simp [go_sem]; done))
          have HS6 := hide (HS5.out.ext x6)
          go_wp2_with fail
          refine (sCanCast_any _ _ _ _).mono ?_
          rintro e wz ⟨rfl, rfl⟩
          rw [hcs]
          obtain ⟨rfl, rfl, rfl⟩ := conv_zero hv HR.out
          go_wp2_with fail
          refine (lwSame_any 0 0 0 0 0 0 b0 b0 b0 b0 _).mono ?_
          rintro e w7 ⟨rfl, x7⟩
          rw [sm_self]
          have HS7 := hide (HS6.out.ext x7)
          go_wp2
          go_roundw
          · exact ⟨k + 1, by go_num, ⟨by omega, by omega⟩, HS7.out⟩
          · simp [intOf]; omega
      · go_wp2
        go_ret
        exact ⟨rfl, HS.out.bl⟩
  ·
    go_wp2
    go_loopw [7] (fun j wr => ∃ k : Int, j = .int .i64 k ∧ (1 ≤ k ∧ k ≤ 10) ∧ CB w w1 wr i f g) (fun j _ => (10 - intOf j).toNat)
    case atStart => exact ⟨1, rfl, ⟨by omega, by omega⟩, HS0.out⟩
    case round =>
      obtain ⟨k, rfl, ⟨hk1, hk2⟩, hS⟩ := hrel
      have HS := hide hS
      clear hS
      have c0 := HS.out.c0
      have c1 := HS.out.c1
      have c2 := HS.out.c2
      by_cases hk : k ≤ 9
      ·
        have ht : 1 ≤ k ∧ k ≤ 9 := ⟨hk1, hk⟩
        have HT := hide ht
        clear ht
        go_wp2_with fail
        refine (conv_any dt k i f g HT.out Hi.out hf hg _).mono ?_
        rintro e w4 ⟨i1, f1, g1, rfl, hR, x4⟩
        obtain ⟨hi1, hf1, hg1⟩ := conv_bits HT.out Hi.out hf hg hR
        have hv1 := conv_valid HT.out Hi.out hR
        have HI1 := hide hi1
        have HR := hide hR
        clear hR hi1
        have HS4 := hide (HS.out.ext x4)
        have p40 := x4.box (b := w1.heap.size) (o := 0) (v := .int .i64 i) (by first | assumption | (simp; done) | (simp [go_sem]; done))
        have p41 := x4.box (b := w1.heap.size) (o := 1) (v := .float .f64 f) (by first | assumption | (simp; done) | (simp [go_sem]; done))
        have p42 := x4.box (b := w1.heap.size) (o := 2) (v := .float .f64 g) (by first | assumption | (simp; done) | (simp [go_sem]; done))
        have ca : Ext w4 (w4.alloc (.cells #[.int .i64 i1, .float .f64 f1, .float .f64 g1] 29)) := (Ext.refl w4).alloc _ _
        have p50 := ca.box (b := w1.heap.size) (o := 0) (v := .int .i64 i) (by first | assumption | (simp; done) | (simp [go_sem]; done))
        have p51 := ca.box (b := w1.heap.size) (o := 1) (v := .float .f64 f) (by first | assumption | (simp; done) | (simp [go_sem]; done))
        have p52 := ca.box (b := w1.heap.size) (o := 2) (v := .float .f64 g) (by first | assumption | (simp; done) | (simp [go_sem]; done))
        have x50 : (w4.alloc (.cells #[.int .i64 i1, .float .f64 f1, .float .f64 g1] 29)).cell? ⟨w4.heap.size, 0, none⟩ = some (.int .i64 i1) := by simp
        have x51 : (w4.alloc (.cells #[.int .i64 i1, .float .f64 f1, .float .f64 g1] 29)).cell? ⟨w4.heap.size, 1, none⟩ = some (.float .f64 f1) := by simp
        have x52 : (w4.alloc (.cells #[.int .i64 i1, .float .f64 f1, .float .f64 g1] 29)).cell? ⟨w4.heap.size, 2, none⟩ = some (.float .f64 g1) := by simp
        have HS5 := hide (HS4.out.ext ca)
        clear ca
        cases hcs : castL dt k 0
        ·
          go_wp2_with fail
          refine (iCanCast_any _ _ _ _).mono ?_
          rintro e wz ⟨rfl, rfl⟩
          rw [hcs]
          go_wp2_with fail
          refine (sValid_any _ _ _ _ hf1 hg1 _).mono ?_
          rintro e w6 ⟨rfl, x6⟩
          have p60 := x6.box (b := w1.heap.size) (o := 0) (v := .int .i64 i) (by first | assumption | (simp; done) | (simp [go_sem]; done))
          have p61 := x6.box (b := w1.heap.size) (o := 1) (v := .float .f64 f) (by first | assumption | (simp; done) | (simp [go_sem]; done))
          have p62 := x6.box (b := w1.heap.size) (o := 2) (v := .float .f64 g) (by first | assumption | (simp; done) | (simp [go_sem]; done))
          have y60 := x6.box (b := w4.heap.size) (o := 0) (v := .int .i64 i1) (by first | assumption | (simp; done) | (simp [go_sem]; done))
          have y61 := x6.box (b := w4.heap.size) (o := 1) (v := .float .f64 f1) (by first | assumption | (simp; done) | (simp [go_sem]; done))
          have y62 := x6.box (b := w4.heap.size) (o := 2) (v := .float .f64 g1) (by first | assumption | (simp; done) | (simp [go_sem]; done))
          have HS6 := hide (HS5.out.ext x6)
          go_wp2_with fail
          refine (sCanCast_any _ _ _ _).mono ?_
          rintro e wz ⟨rfl, rfl⟩
          rw [hcs]
          go_wp2_with fail
          go_region
          all_goals go_wp2
          all_goals go_roundw
          all_goals first | exact ⟨k + 1, by go_num, ⟨by omega, by omega⟩, HS6.out.ext ((Ext.refl _).drew)⟩ | exact ⟨_, rfl, ⟨by omega, by omega⟩, HS6.out.ext ((Ext.refl _).drew)⟩ | (simp [intOf]; done) | (simp [intOf]; omega)
        ·
          go_wp2_with fail
          refine (iCanCast_any _ _ _ _).mono ?_
          rintro e wz ⟨rfl, rfl⟩
          rw [hcs]
          go_wp2_with fail
          refine (sValid_any _ _ _ _ hf1 hg1 _).mono ?_
          rintro e w6 ⟨rfl, x6⟩
          have p60 := x6.box (b := w1.heap.size) (o := 0) (v := .int .i64 i) (by first | assumption | (simp; done) | (simp [go_sem]; done))
          have p61 := x6.box (b := w1.heap.size) (o := 1) (v := .float .f64 f) (by first | assumption | (simp; done) | (simp [go_sem]; done))
          have p62 := x6.box (b := w1.heap.size) (o := 2) (v := .float .f64 g) (by first | assumption | (simp; done) | (simp [go_sem]; done))
          have y60 := x6.box (b := w4.heap.size) (o := 0) (v := .int .i64 i1) (by first | assumption | (simp; done) | (simp [go_sem]; done))
          have y61 := x6.box (b := w4.heap.size) (o := 1) (v := .float .f64 f1) (by first | assumption | (simp; done) | (simp [go_sem]; done))
          have y62 := x6.box (b := w4.heap.size) (o := 2) (v := .float .f64 g1) (by first | assumption | (simp; done) | (simp [go_sem]; done))
          have HS6 := hide (HS5.out.ext x6)
          go_wp2_with fail
          refine (sCanCast_any _ _ _ _).mono ?_
          rintro e wz ⟨rfl, rfl⟩
          rw [hcs]
          have hdt := valid_dt dt i f g hv
          have hor : (dt != 6) = true ∨ (dt = 6 ∧ k < 7) ∨ (dt = 6 ∧ (k = 7 ∨ k = 8 ∨ k = 9)) := by simp only [bne_iff_ne, ne_eq]; omega
          have Hcs := hide hcs
          have Hdt := hide hdt
          have Hv := hide hv
          clear hdt
          have HD := hide (SC.start p60 p61 p62 y60 y61 y62 HS6.out)
          rcases hor with h6 | ⟨rfl, h7⟩ | ⟨rfl, rfl | rfl | rfl⟩
          · have Hgo : Hid (¬ (dt = 6 ∧ 7 ≤ k)) := fun q => by rw [q.1] at h6; exact absurd h6 (by decide)
            go_wp2_with fail
            refine wp_region_any (by kernel_rfl) ?_
            change wpAny _ _ _ _ _ _ _ (World.drew _)
            refine wpAny_take (i := 0) (v := .bool true) rfl (by kernel_rfl) (by kernel_rfl) (by kernel_rfl) (fun _ _ _ h => h) (Or.inl ⟨by kernel_rfl, fun _ => by first | rfl | (simp [go_sem]; done) | (simp [go_sem, h6]; done)⟩) ?_
            go_simp
            refine wpAny_take (i := 1) (v := .bool true) rfl (by kernel_rfl) (by kernel_rfl) (by kernel_rfl) (fun _ _ _ h => h) (Or.inl ⟨by kernel_rfl, fun _ => by first | rfl | (simp [go_sem]; done) | (simp [go_sem, h6]; done)⟩) ?_
            go_simp
            refine wpAny_take (i := 2) (v := .int .i64 dt) rfl (by kernel_rfl) (by kernel_rfl) (by kernel_rfl) (fun _ _ _ h => h) (Or.inl ⟨by kernel_rfl, fun _ => by first | rfl | (simp [go_sem]; done) | (simp [go_sem, h6]; done)⟩) ?_
            go_simp
            refine wpAny_take (i := 3) (v := .bool true) rfl (by kernel_rfl) (by kernel_rfl) (by kernel_rfl) (fun _ _ _ h => h) (Or.inl ⟨by kernel_rfl, fun _ => by first | rfl | (simp [go_sem]; done) | (simp [go_sem, h6]; done)⟩) ?_
            go_simp
            refine wpAny_take (i := 4) (v := .bool true) rfl (by kernel_rfl) (by kernel_rfl) (by kernel_rfl) (fun _ _ _ h => h) (Or.inl ⟨by kernel_rfl, fun _ => by first | rfl | (simp [go_sem]; done) | (simp [go_sem, h6]; done)⟩) ?_
            go_simp
            refine wpAny_take (i := 5) (v := undef) rfl (by kernel_rfl) (by kernel_rfl) (by kernel_rfl) (fun _ _ _ h => h) (Or.inr ⟨by kernel_rfl, rfl⟩) ?_
            go_simp
            refine wpAny_take (i := 6) (v := undef) rfl (by kernel_rfl) (by kernel_rfl) (by kernel_rfl) (fun _ _ _ h => h) (Or.inr ⟨by kernel_rfl, rfl⟩) ?_
            go_simp
            refine wpAny_take (i := 7) (v := .bool true) rfl (by kernel_rfl) (by kernel_rfl) (by kernel_rfl) (fun _ _ _ h => h) (Or.inl ⟨by kernel_rfl, fun _ => by first | rfl | (simp [go_sem]; done) | (simp [go_sem, h6]; done)⟩) ?_
            go_simp
            refine wpAny_take (i := 8) (v := .bool true) rfl (by kernel_rfl) (by kernel_rfl) (by kernel_rfl) (fun _ _ _ h => h) (Or.inl ⟨by kernel_rfl, fun _ => by first | rfl | (simp [go_sem]; done) | (simp [go_sem, h6]; done)⟩) ?_
            go_simp
            refine wpAny_take (i := 9) (v := .bool true) rfl (by kernel_rfl) (by kernel_rfl) (by kernel_rfl) (fun _ _ _ h => h) (Or.inl ⟨by kernel_rfl, fun _ => by first | rfl | (simp [go_sem]; done) | (simp [go_sem, h6]; done)⟩) ?_
            go_simp
            refine wpAny_take (i := 10) (v := .int .i64 k) rfl (by kernel_rfl) (by kernel_rfl) (by kernel_rfl) (fun _ _ _ h => h) (Or.inl ⟨by kernel_rfl, fun _ => by first | rfl | (simp [go_sem]; done) | (simp [go_sem, h6]; done)⟩) ?_
            go_simp
            refine wpAny_take (i := 11) (v := .int .i64 dt) rfl (by kernel_rfl) (by kernel_rfl) (by kernel_rfl) (fun _ _ _ h => h) (Or.inl ⟨by kernel_rfl, fun _ => by first | rfl | (simp [go_sem]; done) | (simp [go_sem, h6]; done)⟩) ?_
            go_simp
            refine wpAny_ready (rs := [12, 14]) (by kernel_rfl) (by simp) ?_
            refine AllReady.cons rfl (fun K hK => ?_) (AllReady.cons rfl (fun K hK => ?_) AllReady.nil)
            · go_simp
              refine hK _ _ ?_
              clear hK K
              go_simp
              refine wpAny_ready (rs := [13, 14]) (by kernel_rfl) (by simp) ?_
              refine AllReady.cons rfl (fun K hK => ?_) (AllReady.cons rfl (fun K hK => ?_) AllReady.nil)
              · go_simp
                refine (conv_any _ _ i1 f1 g1 Hdt.out HI1.out hf1 hg1 _).mono ?_
                rintro e w8 ⟨i2, f2, g2, rfl, hR2, x8⟩
                obtain ⟨_, hf2, hg2⟩ := conv_bits Hdt.out HI1.out hf1 hg1 hR2
                have hsm := conv_back Hcs.out Hgo.out Hv.out Hi.out HR.out hR2
                have HE8 := hide (HD.out.ext x8)
                have p80 := HE8.out.c0
                have p81 := HE8.out.c1
                have p82 := HE8.out.c2
                clear hR2 x8
                go_simp
                refine hK _ _ ?_
                clear hK K
                go_simp
                refine wpAny_ready (rs := [14]) (by kernel_rfl) (by simp) ?_
                refine AllReady.cons rfl (fun K hK => ?_) AllReady.nil
                go_simp
                refine hK _ _ ?_
                clear hK K
                go_simp
                refine wpAny_ready (rs := [15]) (by kernel_rfl) (by simp) ?_
                refine AllReady.cons rfl (fun K hK => ?_) AllReady.nil
                go_simp
                refine (lwSame_any _ _ _ _ _ _ hf2 hg2 hf hg _).mono ?_
                rintro e w9 ⟨rfl, x9⟩
                rw [hsm]
                have HF9 := hide (HE8.out.ext x9)
                clear x9
                go_simp
                refine hK _ _ ?_
                clear hK K
                go_simp
                refine wpAny_take (i := 16) (v := .bool false) rfl (by kernel_rfl) (by kernel_rfl) (by kernel_rfl) (fun _ _ _ h => h) (Or.inl ⟨by kernel_rfl, fun _ => by first | rfl | (simp [go_sem]; done) | (simp [go_sem, h6]; done)⟩) ?_
                go_simp
                refine wpAny_take (i := 17) (v := .bool false) rfl (by kernel_rfl) (by kernel_rfl) (by kernel_rfl) (fun _ _ _ h => h) (Or.inl ⟨by kernel_rfl, fun _ => by first | rfl | (simp [go_sem]; done) | (simp [go_sem, h6]; done)⟩) ?_
                go_simp
                refine wpAny_done (by kernel_rfl) ?_ _
                go_wp2
                go_roundw
                · exact ⟨k + 1, by go_num, ⟨by omega, by omega⟩, HF9.out.cb⟩
                · simp [intOf]; omega
              · go_simp
                refine hK _ _ ?_
                clear hK K
                go_simp
                refine wpAny_ready (rs := [13]) (by kernel_rfl) (by simp) ?_
                refine AllReady.cons rfl (fun K hK => ?_) AllReady.nil
                go_simp
                refine (conv_any _ _ i1 f1 g1 Hdt.out HI1.out hf1 hg1 _).mono ?_
                rintro e w8 ⟨i2, f2, g2, rfl, hR2, x8⟩
                obtain ⟨_, hf2, hg2⟩ := conv_bits Hdt.out HI1.out hf1 hg1 hR2
                have hsm := conv_back Hcs.out Hgo.out Hv.out Hi.out HR.out hR2
                have HE8 := hide (HD.out.ext x8)
                have p80 := HE8.out.c0
                have p81 := HE8.out.c1
                have p82 := HE8.out.c2
                clear hR2 x8
                go_simp
                refine hK _ _ ?_
                clear hK K
                go_simp
                refine wpAny_ready (rs := [15]) (by kernel_rfl) (by simp) ?_
                refine AllReady.cons rfl (fun K hK => ?_) AllReady.nil
                go_simp
                refine (lwSame_any _ _ _ _ _ _ hf2 hg2 hf hg _).mono ?_
                rintro e w9 ⟨rfl, x9⟩
                rw [hsm]
                have HF9 := hide (HE8.out.ext x9)
                clear x9
                go_simp
                refine hK _ _ ?_
                clear hK K
                go_simp
                refine wpAny_take (i := 16) (v := .bool false) rfl (by kernel_rfl) (by kernel_rfl) (by kernel_rfl) (fun _ _ _ h => h) (Or.inl ⟨by kernel_rfl, fun _ => by first | rfl | (simp [go_sem]; done) | (simp [go_sem, h6]; done)⟩) ?_
                go_simp
                refine wpAny_take (i := 17) (v := .bool false) rfl (by kernel_rfl) (by kernel_rfl) (by kernel_rfl) (fun _ _ _ h => h) (Or.inl ⟨by kernel_rfl, fun _ => by first | rfl | (simp [go_sem]; done) | (simp [go_sem, h6]; done)⟩) ?_
                go_simp
                refine wpAny_done (by kernel_rfl) ?_ _
                go_wp2
                go_roundw
                · exact ⟨k + 1, by go_num, ⟨by omega, by omega⟩, HF9.out.cb⟩
                · simp [intOf]; omega
            · go_simp
              refine hK _ _ ?_
              clear hK K
              go_simp
              refine wpAny_ready (rs := [12]) (by kernel_rfl) (by simp) ?_
              refine AllReady.cons rfl (fun K hK => ?_) AllReady.nil
              go_simp
              refine hK _ _ ?_
              clear hK K
              go_simp
              refine wpAny_ready (rs := [13]) (by kernel_rfl) (by simp) ?_
              refine AllReady.cons rfl (fun K hK => ?_) AllReady.nil
              go_simp
              refine (conv_any _ _ i1 f1 g1 Hdt.out HI1.out hf1 hg1 _).mono ?_
              rintro e w8 ⟨i2, f2, g2, rfl, hR2, x8⟩
              obtain ⟨_, hf2, hg2⟩ := conv_bits Hdt.out HI1.out hf1 hg1 hR2
              have hsm := conv_back Hcs.out Hgo.out Hv.out Hi.out HR.out hR2
              have HE8 := hide (HD.out.ext x8)
              have p80 := HE8.out.c0
              have p81 := HE8.out.c1
              have p82 := HE8.out.c2
              clear hR2 x8
              go_simp
              refine hK _ _ ?_
              clear hK K
              go_simp
              refine wpAny_ready (rs := [15]) (by kernel_rfl) (by simp) ?_
              refine AllReady.cons rfl (fun K hK => ?_) AllReady.nil
              go_simp
              refine (lwSame_any _ _ _ _ _ _ hf2 hg2 hf hg _).mono ?_
              rintro e w9 ⟨rfl, x9⟩
              rw [hsm]
              have HF9 := hide (HE8.out.ext x9)
              clear x9
              go_simp
              refine hK _ _ ?_
              clear hK K
              go_simp
              refine wpAny_take (i := 16) (v := .bool false) rfl (by kernel_rfl) (by kernel_rfl) (by kernel_rfl) (fun _ _ _ h => h) (Or.inl ⟨by kernel_rfl, fun _ => by first | rfl | (simp [go_sem]; done) | (simp [go_sem, h6]; done)⟩) ?_
              go_simp
              refine wpAny_take (i := 17) (v := .bool false) rfl (by kernel_rfl) (by kernel_rfl) (by kernel_rfl) (fun _ _ _ h => h) (Or.inl ⟨by kernel_rfl, fun _ => by first | rfl | (simp [go_sem]; done) | (simp [go_sem, h6]; done)⟩) ?_
              go_simp
              refine wpAny_done (by kernel_rfl) ?_ _
              go_wp2
              go_roundw
              · exact ⟨k + 1, by go_num, ⟨by omega, by omega⟩, HF9.out.cb⟩
              · simp [intOf]; omega
          · have Hgo : Hid (k < 7) := h7
            go_wp2_with fail
            refine wp_region_any (by kernel_rfl) ?_
            change wpAny _ _ _ _ _ _ _ (World.drew _)
            refine wpAny_take (i := 0) (v := .bool true) rfl (by kernel_rfl) (by kernel_rfl) (by kernel_rfl) (fun _ _ _ h => h) (Or.inl ⟨by kernel_rfl, fun _ => by first | rfl | (simp [go_sem]; done) | (simp [go_sem, h7]; done)⟩) ?_
            go_simp
            refine wpAny_take (i := 1) (v := .bool true) rfl (by kernel_rfl) (by kernel_rfl) (by kernel_rfl) (fun _ _ _ h => h) (Or.inl ⟨by kernel_rfl, fun _ => by first | rfl | (simp [go_sem]; done) | (simp [go_sem, h7]; done)⟩) ?_
            go_simp
            refine wpAny_take (i := 2) (v := .int .i64 6) rfl (by kernel_rfl) (by kernel_rfl) (by kernel_rfl) (fun _ _ _ h => h) (Or.inl ⟨by kernel_rfl, fun _ => by first | rfl | (simp [go_sem]; done) | (simp [go_sem, h7]; done)⟩) ?_
            go_simp
            refine wpAny_take (i := 3) (v := .bool false) rfl (by kernel_rfl) (by kernel_rfl) (by kernel_rfl) (fun _ _ _ h => h) (Or.inl ⟨by kernel_rfl, fun _ => by first | rfl | (simp [go_sem]; done) | (simp [go_sem, h7]; done)⟩) ?_
            go_simp
            refine wpAny_take (i := 4) (v := .bool false) rfl (by kernel_rfl) (by kernel_rfl) (by kernel_rfl) (fun _ _ _ h => h) (Or.inl ⟨by kernel_rfl, fun _ => by first | rfl | (simp [go_sem]; done) | (simp [go_sem, h7]; done)⟩) ?_
            go_simp
            refine wpAny_take (i := 5) (v := .int .i64 k) rfl (by kernel_rfl) (by kernel_rfl) (by kernel_rfl) (fun _ _ _ h => h) (Or.inl ⟨by kernel_rfl, fun _ => by first | rfl | (simp [go_sem]; done) | (simp [go_sem, h7]; done)⟩) ?_
            go_simp
            refine wpAny_take (i := 6) (v := .bool true) rfl (by kernel_rfl) (by kernel_rfl) (by kernel_rfl) (fun _ _ _ h => h) (Or.inl ⟨by kernel_rfl, fun _ => by first | rfl | (simp [go_sem]; done) | (simp [go_sem, h7]; done)⟩) ?_
            go_simp
            refine wpAny_take (i := 7) (v := .bool true) rfl (by kernel_rfl) (by kernel_rfl) (by kernel_rfl) (fun _ _ _ h => h) (Or.inl ⟨by kernel_rfl, fun _ => by first | rfl | (simp [go_sem]; done) | (simp [go_sem, h7]; done)⟩) ?_
            go_simp
            refine wpAny_take (i := 8) (v := .bool true) rfl (by kernel_rfl) (by kernel_rfl) (by kernel_rfl) (fun _ _ _ h => h) (Or.inl ⟨by kernel_rfl, fun _ => by first | rfl | (simp [go_sem]; done) | (simp [go_sem, h7]; done)⟩) ?_
            go_simp
            refine wpAny_take (i := 9) (v := .bool true) rfl (by kernel_rfl) (by kernel_rfl) (by kernel_rfl) (fun _ _ _ h => h) (Or.inl ⟨by kernel_rfl, fun _ => by first | rfl | (simp [go_sem]; done) | (simp [go_sem, h7]; done)⟩) ?_
            go_simp
            refine wpAny_take (i := 10) (v := .int .i64 k) rfl (by kernel_rfl) (by kernel_rfl) (by kernel_rfl) (fun _ _ _ h => h) (Or.inl ⟨by kernel_rfl, fun _ => by first | rfl | (simp [go_sem]; done) | (simp [go_sem, h7]; done)⟩) ?_
            go_simp
            refine wpAny_take (i := 11) (v := .int .i64 6) rfl (by kernel_rfl) (by kernel_rfl) (by kernel_rfl) (fun _ _ _ h => h) (Or.inl ⟨by kernel_rfl, fun _ => by first | rfl | (simp [go_sem]; done) | (simp [go_sem, h7]; done)⟩) ?_
            go_simp
            refine wpAny_ready (rs := [12, 14]) (by kernel_rfl) (by simp) ?_
            refine AllReady.cons rfl (fun K hK => ?_) (AllReady.cons rfl (fun K hK => ?_) AllReady.nil)
            · go_simp
              refine hK _ _ ?_
              clear hK K
              go_simp
              refine wpAny_ready (rs := [13, 14]) (by kernel_rfl) (by simp) ?_
              refine AllReady.cons rfl (fun K hK => ?_) (AllReady.cons rfl (fun K hK => ?_) AllReady.nil)
              · go_simp
                refine (conv_any _ _ i1 f1 g1 Hdt.out HI1.out hf1 hg1 _).mono ?_
                rintro e w8 ⟨i2, f2, g2, rfl, hR2, x8⟩
                obtain ⟨_, hf2, hg2⟩ := conv_bits Hdt.out HI1.out hf1 hg1 hR2
                have hsm := conv_back Hcs.out (fun q => absurd Hgo.out (Int.not_lt.2 q.2)) Hv.out Hi.out HR.out hR2
                have HE8 := hide (HD.out.ext x8)
                have p80 := HE8.out.c0
                have p81 := HE8.out.c1
                have p82 := HE8.out.c2
                clear hR2 x8
                go_simp
                refine hK _ _ ?_
                clear hK K
                go_simp
                refine wpAny_ready (rs := [14]) (by kernel_rfl) (by simp) ?_
                refine AllReady.cons rfl (fun K hK => ?_) AllReady.nil
                go_simp
                refine hK _ _ ?_
                clear hK K
                go_simp
                refine wpAny_ready (rs := [15]) (by kernel_rfl) (by simp) ?_
                refine AllReady.cons rfl (fun K hK => ?_) AllReady.nil
                go_simp
                refine (lwSame_any _ _ _ _ _ _ hf2 hg2 hf hg _).mono ?_
                rintro e w9 ⟨rfl, x9⟩
                rw [hsm]
                have HF9 := hide (HE8.out.ext x9)
                clear x9
                go_simp
                refine hK _ _ ?_
                clear hK K
                go_simp
                refine wpAny_take (i := 16) (v := .bool false) rfl (by kernel_rfl) (by kernel_rfl) (by kernel_rfl) (fun _ _ _ h => h) (Or.inl ⟨by kernel_rfl, fun _ => by first | rfl | (simp [go_sem]; done) | (simp [go_sem, h7]; done)⟩) ?_
                go_simp
                refine wpAny_take (i := 17) (v := .bool false) rfl (by kernel_rfl) (by kernel_rfl) (by kernel_rfl) (fun _ _ _ h => h) (Or.inl ⟨by kernel_rfl, fun _ => by first | rfl | (simp [go_sem]; done) | (simp [go_sem, h7]; done)⟩) ?_
                go_simp
                refine wpAny_done (by kernel_rfl) ?_ _
                go_wp2
                go_roundw
                · exact ⟨k + 1, by go_num, ⟨by omega, by omega⟩, HF9.out.cb⟩
                · simp [intOf]; omega
              · go_simp
                refine hK _ _ ?_
                clear hK K
                go_simp
                refine wpAny_ready (rs := [13]) (by kernel_rfl) (by simp) ?_
                refine AllReady.cons rfl (fun K hK => ?_) AllReady.nil
                go_simp
                refine (conv_any _ _ i1 f1 g1 Hdt.out HI1.out hf1 hg1 _).mono ?_
                rintro e w8 ⟨i2, f2, g2, rfl, hR2, x8⟩
                obtain ⟨_, hf2, hg2⟩ := conv_bits Hdt.out HI1.out hf1 hg1 hR2
                have hsm := conv_back Hcs.out (fun q => absurd Hgo.out (Int.not_lt.2 q.2)) Hv.out Hi.out HR.out hR2
                have HE8 := hide (HD.out.ext x8)
                have p80 := HE8.out.c0
                have p81 := HE8.out.c1
                have p82 := HE8.out.c2
                clear hR2 x8
                go_simp
                refine hK _ _ ?_
                clear hK K
                go_simp
                refine wpAny_ready (rs := [15]) (by kernel_rfl) (by simp) ?_
                refine AllReady.cons rfl (fun K hK => ?_) AllReady.nil
                go_simp
                refine (lwSame_any _ _ _ _ _ _ hf2 hg2 hf hg _).mono ?_
                rintro e w9 ⟨rfl, x9⟩
                rw [hsm]
                have HF9 := hide (HE8.out.ext x9)
                clear x9
                go_simp
                refine hK _ _ ?_
                clear hK K
                go_simp
                refine wpAny_take (i := 16) (v := .bool false) rfl (by kernel_rfl) (by kernel_rfl) (by kernel_rfl) (fun _ _ _ h => h) (Or.inl ⟨by kernel_rfl, fun _ => by first | rfl | (simp [go_sem]; done) | (simp [go_sem, h7]; done)⟩) ?_
                go_simp
                refine wpAny_take (i := 17) (v := .bool false) rfl (by kernel_rfl) (by kernel_rfl) (by kernel_rfl) (fun _ _ _ h => h) (Or.inl ⟨by kernel_rfl, fun _ => by first | rfl | (simp [go_sem]; done) | (simp [go_sem, h7]; done)⟩) ?_
                go_simp
                refine wpAny_done (by kernel_rfl) ?_ _
                go_wp2
                go_roundw
                · exact ⟨k + 1, by go_num, ⟨by omega, by omega⟩, HF9.out.cb⟩
                · simp [intOf]; omega
            · go_simp
              refine hK _ _ ?_
              clear hK K
              go_simp
              refine wpAny_ready (rs := [12]) (by kernel_rfl) (by simp) ?_
              refine AllReady.cons rfl (fun K hK => ?_) AllReady.nil
              go_simp
              refine hK _ _ ?_
              clear hK K
              go_simp
              refine wpAny_ready (rs := [13]) (by kernel_rfl) (by simp) ?_
              refine AllReady.cons rfl (fun K hK => ?_) AllReady.nil
              go_simp
              refine (conv_any _ _ i1 f1 g1 Hdt.out HI1.out hf1 hg1 _).mono ?_
              rintro e w8 ⟨i2, f2, g2, rfl, hR2, x8⟩
              obtain ⟨_, hf2, hg2⟩ := conv_bits Hdt.out HI1.out hf1 hg1 hR2
              have hsm := conv_back Hcs.out (fun q => absurd Hgo.out (Int.not_lt.2 q.2)) Hv.out Hi.out HR.out hR2
              have HE8 := hide (HD.out.ext x8)
              have p80 := HE8.out.c0
              have p81 := HE8.out.c1
              have p82 := HE8.out.c2
              clear hR2 x8
              go_simp
              refine hK _ _ ?_
              clear hK K
              go_simp
              refine wpAny_ready (rs := [15]) (by kernel_rfl) (by simp) ?_
              refine AllReady.cons rfl (fun K hK => ?_) AllReady.nil
              go_simp
              refine (lwSame_any _ _ _ _ _ _ hf2 hg2 hf hg _).mono ?_
              rintro e w9 ⟨rfl, x9⟩
              rw [hsm]
              have HF9 := hide (HE8.out.ext x9)
              clear x9
              go_simp
              refine hK _ _ ?_
              clear hK K
              go_simp
              refine wpAny_take (i := 16) (v := .bool false) rfl (by kernel_rfl) (by kernel_rfl) (by kernel_rfl) (fun _ _ _ h => h) (Or.inl ⟨by kernel_rfl, fun _ => by first | rfl | (simp [go_sem]; done) | (simp [go_sem, h7]; done)⟩) ?_
              go_simp
              refine wpAny_take (i := 17) (v := .bool false) rfl (by kernel_rfl) (by kernel_rfl) (by kernel_rfl) (fun _ _ _ h => h) (Or.inl ⟨by kernel_rfl, fun _ => by first | rfl | (simp [go_sem]; done) | (simp [go_sem, h7]; done)⟩) ?_
              go_simp
              refine wpAny_done (by kernel_rfl) ?_ _
              go_wp2
              go_roundw
              · exact ⟨k + 1, by go_num, ⟨by omega, by omega⟩, HF9.out.cb⟩
              · simp [intOf]; omega
          · go_wp2_with fail
            go_region
            all_goals go_wp2
            all_goals go_roundw
            all_goals first | exact ⟨_, rfl, ⟨by omega, by omega⟩, HS6.out.ext ((Ext.refl _).drew)⟩ | (simp [intOf]; done) | (simp [intOf]; omega)
          · go_wp2_with fail
            go_region
            all_goals go_wp2
            all_goals go_roundw
            all_goals first | exact ⟨_, rfl, ⟨by omega, by omega⟩, HS6.out.ext ((Ext.refl _).drew)⟩ | (simp [intOf]; done) | (simp [intOf]; omega)
          · go_wp2_with fail
            go_region
            all_goals go_wp2
            all_goals go_roundw
            all_goals first | exact ⟨_, rfl, ⟨by omega, by omega⟩, HS6.out.ext ((Ext.refl _).drew)⟩ | (simp [intOf]; done) | (simp [intOf]; omega)
      · go_wp2
        go_ret
        exact ⟨rfl, HS.out.bl⟩
end Go.Proofs.Ythaajmkfeniofaa
