import Derived.Test.YtanbgpmbccianaaDSource
import Derived.Test.YtanbgpmbccianaaM7
import Derived.Test.YtanbgpmbccianaaSpecSL
import Derived.Test.YtanbgpmbccianaaSpecTR
import Derived.Test.YtanbgpmbccianaaSpecRS
namespace Go.Proofs.Ytanbgpmbccianaa
open Go.ChangeShapes Go.RowKit
set_option linter.unusedSimpArgs false
set_option linter.unusedVariables false

/-- What a source of draws keeps: its list, its bytes, its size. -/
structure Gh where
  sv : Value
  ds : List Int
  size : Int
variable {G : Gh} {s t : SS}

theorem own_mut {w w' : World} {base e size n b : Nat} {v : Value} {xs : List Value} (h : w.ownsRow base e size v n xs) (m : Mut b w w') (hb : v.ownBlock ≠ some b) : w'.ownsRow base e size v n xs :=
  h.kept (row := some b) ⟨m.os, m.tape, m.output, m.size, fun k hk hne => m.block k hk (fun e => hne (by rw [e]))⟩ (Or.inr hb)
/-- A source below H. -/
structure SrcH (w : World) (H b : Nat) (sv : Value) (cs : List Int) (s : SS) (size : Int) : Prop where
  src : Src w b sv cs s size
  hb : b < H
  hg : ∀ k, sv.ownBlock = some k → 0 < cs.length → k < H
theorem Src.h {w : World} {b : Nat} {sv : Value} {cs : List Int} {s : SS} {size : Int} (h : Src w b sv cs s size) : SrcH w w.heap.size b sv cs s size := ⟨h, cell_lt h.c0, fun k hk hl => by
  rcases h.code with ⟨h1, _⟩ | ⟨g, cap, h1, h2, h3⟩
  · rw [h1] at hl; simp at hl
  · rw [h1] at hk
    simp [Value.ownBlock] at hk
    subst hk
    exact cell_lt (h3 0 hl)⟩
theorem SrcH.below {w w' : World} {H b : Nat} {sv : Value} {cs : List Int} {s : SS} {size : Int} (h : SrcH w H b sv cs s size) (x : Below H w w') : SrcH w' H b sv cs s size := by
  have hc : ∀ {g o v}, g < H → w.cell? ⟨g, o, none⟩ = some v → w'.cell? ⟨g, o, none⟩ = some v := fun {g o v} hg hv => by rw [x.cell (p := ⟨g, o, none⟩) hg, hv]
  refine ⟨⟨hc h.hb h.src.c0, hc h.hb h.src.c1, hc h.hb h.src.c2, hc h.hb h.src.c3, fun o => (x.frozen (p := ⟨b, o, none⟩) h.hb).trans (h.src.fz o), h.src.atn, h.src.nle, h.src.mix0, h.src.mix1, h.src.size0, h.src.size1, h.src.byt, ?_⟩, h.hb, h.hg⟩
  rcases h.src.code with hc0 | ⟨g, cap, h1, h2, h3⟩
  · exact Or.inl hc0
  · exact Or.inr ⟨g, cap, h1, h2, fun j hj => hc (h.hg g (by rw [h1]; rfl) (by omega)) (h3 j hj)⟩
theorem SrcH.ext {w w' : World} {H b : Nat} {sv : Value} {cs : List Int} {s : SS} {size : Int} (h : SrcH w H b sv cs s size) (x : Ext w w') (hH : H ≤ w.heap.size) : SrcH w' H b sv cs s size := h.below (Below.mono x.bl hH)
theorem SrcH.next {w w' : World} {H b : Nat} {sv : Value} {cs : List Int} {s s' : SS} {size : Int} (h : SrcH w H b sv cs s size) (k : Src w' b sv cs s' size) : SrcH w' H b sv cs s' size := ⟨k, h.hb, h.hg⟩


/-- The source below H, in state s. -/
def SX (w : World) (H b : Nat) (G : Gh) (s : SS) : Prop := SrcH w H b G.sv G.ds s G.size
theorem SX.hb {w : World} {H b : Nat} (h : SX w H b G s) : b < H := SrcH.hb h
theorem SX.below {w w' : World} {H b : Nat} (h : SX w H b G s) (x : Below H w w') : SX w' H b G s := SrcH.below h x
theorem next_x {w : World} {H b : Nat} (h : SX w H b G s) (m : Int) :
    Calls Try.prog 13 #[.pointer (some ⟨b, 0, none⟩), .int .i64 m] w fun e w' => ∃ (v : Int) (t : SS), nextL G.ds s m = (v, t) ∧ e = .returned (.int .i64 v) ∧ 0 ≤ v ∧ (v < m ∨ v = 0) ∧ SX w' H b G t ∧ Mut b w w' := by
  have h' : SrcH w H b G.sv G.ds s G.size := h
  refine (l1next_any h'.src m).mono ?_
  rintro e w' ⟨rfl, h1, h2⟩
  have hb := h'.src.nextBd m
  refine ⟨(nextL G.ds s m).1, (nextL G.ds s m).2, rfl, rfl, hb.1, ?_, h'.next h1, h2⟩
  by_cases q : 1 ≤ m
  · exact Or.inl (hb.2 q)
  · refine Or.inr ?_
    unfold nextL
    rw [if_pos (by omega)]

/-- The lists of a view that is drawn. -/
structure DV (w : World) (H : Nat) (vA vB : Value) (xs ss : List Int) : Prop where
  a : w.ownsRow H 2 1 vA xs.length (xs.map (Value.int .i64))
  c : w.ownsRow H 2 1 vB ss.length (ss.map (Value.int .i64))
  dj : vA.ownBlock = none ∨ vA.ownBlock ≠ vB.ownBlock
def VI (xs ss : List Int) : Prop := Good xs ∧ ss.length = xs.length ∧ InS ss ss.length
theorem VI.nil : VI [] [] := ⟨⟨by simp, fun j hj => by simp at hj, by simp [prod]⟩, rfl, fun j hj => by simp at hj⟩
theorem VI.of {xs ss : List Int} {off : Int} (h : ValidV xs ss off) : VI xs ss := ⟨h.1, h.2.1, h.2.2.2.1⟩
theorem own_ints {W : World} {base n : Nat} {v : Value} {L : List Int} (h : W.ownsRow base 2 1 v n (L.map (Value.int .i64))) : Ints W v L := by
  have hl : n = L.length := by have := h.1; simp at this; omega
  obtain ⟨sa, cap, rfl⟩ := own_form2 h
  subst hl
  exact (own_intsB (lo := base) h (Nat.le_refl _)).ints
theorem DV.keep {w w' : World} {H b : Nat} {vA vB : Value} {xs ss : List Int} (h : DV w H vA vB xs ss) (x : w.grownBy w' (some b)) (hb : b < H) : DV w' H vA vB xs ss :=
  ⟨h.a.kept x (Or.inr fun e => by have := (h.a.lt b e).1; omega), h.c.kept x (Or.inr fun e => by have := (h.c.lt b e).1; omega), h.dj⟩
theorem gb_mut {b : Nat} {w w' : World} (m : Mut b w w') : w.grownBy w' (some b) := ⟨m.os, m.tape, m.output, m.size, fun k hk hne => m.block k hk (fun e => hne (by rw [e]))⟩
theorem gb_bel {w w' : World} (b : Nat) (x : Bel w w') : w.grownBy w' (some b) := ⟨Below.os x, Below.tape x, Below.output x, Below.size x, fun k hk _ => Below.block x k hk⟩
theorem gb_tr {b : Nat} {u w w' : World} (h : u.grownBy w (some b)) (k : w.grownBy w' (some b)) : u.grownBy w' (some b) :=
  ⟨k.os.trans h.os, k.tape.trans h.tape, k.output.trans h.output, Nat.le_trans h.size k.size, fun j hj hne => (k.block j (Nat.lt_of_lt_of_le hj h.size) hne).trans (h.block j hj hne)⟩
theorem gb_own {b g : Nat} {u w w' : World} (h : u.grownBy w (some b)) (k : w.grownBy w' (some g)) (hg : u.heap.size ≤ g) : u.grownBy w' (some b) :=
  ⟨k.os.trans h.os, k.tape.trans h.tape, k.output.trans h.output, Nat.le_trans h.size k.size, fun j hj hne => (k.block j (Nat.lt_of_lt_of_le hj h.size) (fun e => by injection e with e; omega)).trans (h.block j hj hne)⟩
theorem gb_refl (b : Nat) (w : World) : w.grownBy w (some b) := ⟨rfl, rfl, rfl, Nat.le_refl _, fun _ _ _ => rfl⟩

/-- The state inside a draw: w at its beginning, W now. -/
structure ST (w W : World) (H b : Nat) (G : Gh) (s : SS) : Prop where
  src : SX W H b G s
  gb : w.grownBy W (some b)
  hH : H ≤ w.heap.size
theorem ST.start {w : World} {H b : Nat} (h : SX w H b G s) (hH : H ≤ w.heap.size) : ST w w H b G s := ⟨h, gb_refl _ _, hH⟩
theorem ST.bH {w W : World} {H b : Nat} (h : ST w W H b G s) : b < H := h.src.hb
theorem ST.sz {w W : World} {H b : Nat} (h : ST w W H b G s) : w.heap.size ≤ W.heap.size := h.gb.size
theorem ST.mut {w W W' : World} {H b : Nat} (h : ST w W H b G s) (k : SX W' H b G t) (m : Mut b W W') : ST w W' H b G t := ⟨k, gb_tr h.gb (gb_mut m), h.hH⟩
theorem ST.bel {w W W' : World} {H b : Nat} (h : ST w W H b G s) (x : Bel W W') : ST w W' H b G s := ⟨h.src.below (Below.mono x (Nat.le_trans h.hH h.sz)), gb_tr h.gb (gb_bel b x), h.hH⟩
theorem ST.alloc {w W : World} {H b : Nat} (h : ST w W H b G s) (cs : Array Value) (ty : TypeId) : ST w (W.alloc (.cells cs ty)) H b G s := h.bel ((Ext.refl W).alloc cs ty).bl
theorem ST.drew {w W : World} {H b : Nat} (h : ST w W H b G s) : ST w W.drew H b G s := h.bel (bel_drew W)
theorem ST.own {w W W' : World} {H b : Nat} {g : Option Nat} (h : ST w W H b G s) (k : W.grownBy W' g) (hg : ∀ j, g = some j → w.heap.size ≤ j) : ST w W' H b G s := by
  have hs := h.sz
  have hH := h.hH
  refine ⟨h.src.below ⟨k.os, k.tape, k.output, k.size, fun j hj => k.block j (by omega) (fun e => by have := hg j e.symm; omega)⟩, ⟨k.os.trans h.gb.os, k.tape.trans h.gb.tape, k.output.trans h.gb.output, Nat.le_trans hs k.size, fun j hj hne => (k.block j (by omega) (fun e => by have := hg j e.symm; omega)).trans (h.gb.block j hj hne)⟩, hH⟩
theorem ST.setCell {w W : World} {H b g o : Nat} {v : Value} (h : ST w W H b G s) (hg : w.heap.size ≤ g) : ST w (W.setCell ⟨g, o, none⟩ v) H b G s :=
  h.own (g := some g) (gb_mut ((Mut.refl g W).setCell o v)) (fun j e => by injection e with e; omega)
theorem ST.next {w W : World} {H b : Nat} (h : ST w W H b G s) (m : Int) :
    Calls Try.prog 13 #[.pointer (some ⟨b, 0, none⟩), .int .i64 m] W fun e W' => ∃ (v : Int) (t : SS), nextL G.ds s m = (v, t) ∧ e = .returned (.int .i64 v) ∧ 0 ≤ v ∧ (v < m ∨ v = 0) ∧ ST w W' H b G t ∧ Mut b W W' :=
  (next_x h.src m).mono fun e W' hh => by
    obtain ⟨v, t, h0, h1, h2, h3, h4, h5⟩ := hh
    exact ⟨v, t, h0, h1, h2, h3, h.mut h4 h5, h5⟩
theorem DV.mut {w w' : World} {H b : Nat} {vA vB : Value} {xs ss : List Int} (h : DV w H vA vB xs ss) (m : Mut b w w') (hb : b < H) : DV w' H vA vB xs ss := h.keep (gb_mut m) hb
theorem DV.bel {w w' : World} {H : Nat} {vA vB : Value} {xs ss : List Int} (h : DV w H vA vB xs ss) (x : Bel w w') : DV w' H vA vB xs ss :=
  ⟨own_keep h.a x, own_keep h.c x, h.dj⟩
theorem DV.low {w : World} {H lo : Nat} {vA vB : Value} {xs ss : List Int} (h : DV w H vA vB xs ss) (hl : lo ≤ H) : DV w lo vA vB xs ss := ⟨own_low h.a hl, own_low h.c hl, h.dj⟩
/-- The answer of the specification is a view. -/
theorem VSOw.dv {w W : World} {H : Nat} {c : Int} {L S : List Int} {o : Int} {e : Ending} (h : VSOw w c L S o e W) (hH : H ≤ w.heap.size) : ∃ (sa sb : Option Addr) (ca cb : Nat), e = .returned (.agg #[.int .i64 c, .slice sa L.length ca, .slice sb S.length cb, .int .i64 o]) ∧ DV W H (.slice sa L.length ca) (.slice sb S.length cb) L S ∧ Bel w W := by
  obtain ⟨sa, sb, ca, cb, h1, h2, h3, h4, h5⟩ := h
  exact ⟨sa, sb, ca, cb, h1, ⟨own_low h2 hH, own_low h3 hH, h4⟩, h5⟩

theorem slL_vi {xs ss : List Int} {off axis start stop step c : Int} {L S : List Int} {o : Int} (h : slL xs ss off axis start stop step = (c, L, S, o)) : VI L S := by
  unfold slL at h
  split at h
  · next hv =>
    split at h
    · next ha =>
      split at h
      · next hs =>
        simp only [Prod.mk.injEq] at h
        obtain ⟨rfl, rfl, rfl, rfl⟩ := h
        exact VI.of (hplS hv (a := axis.toNat) (by omega) hs.1 hs.2.1 hs.2.2.1 rfl rfl).1
      · simp only [Prod.mk.injEq] at h
        obtain ⟨rfl, rfl, rfl, rfl⟩ := h
        exact VI.nil
    · simp only [Prod.mk.injEq] at h
      obtain ⟨rfl, rfl, rfl, rfl⟩ := h
      exact VI.nil
  · simp only [Prod.mk.injEq] at h
    obtain ⟨rfl, rfl, rfl, rfl⟩ := h
    exact VI.nil
theorem trL_vi {xs ss ps : List Int} {off c : Int} {L S : List Int} {o : Int} (h : trL xs ss off ps = (c, L, S, o)) : VI L S := by
  unfold trL at h
  split at h
  · next hv =>
    split at h
    · next ha =>
      simp only [Prod.mk.injEq] at h
      obtain ⟨rfl, rfl, rfl, rfl⟩ := h
      exact VI.of (hplT hv ha).1
    · simp only [Prod.mk.injEq] at h
      obtain ⟨rfl, rfl, rfl, rfl⟩ := h
      exact VI.nil
  · simp only [Prod.mk.injEq] at h
    obtain ⟨rfl, rfl, rfl, rfl⟩ := h
    exact VI.nil
theorem brL_vi {xs ss ps : List Int} {off c : Int} {L S : List Int} {o : Int} (h : brL xs ss off ps = (c, L, S, o)) : VI L S := by
  unfold brL at h
  split at h
  · next hv =>
    split at h
    · next ha =>
      simp only [Prod.mk.injEq] at h
      obtain ⟨rfl, rfl, rfl, rfl⟩ := h
      exact VI.of (hplB hv ha.1 ha.2).1
    · simp only [Prod.mk.injEq] at h
      obtain ⟨rfl, rfl, rfl, rfl⟩ := h
      exact VI.nil
  · simp only [Prod.mk.injEq] at h
    obtain ⟨rfl, rfl, rfl, rfl⟩ := h
    exact VI.nil
theorem plen_drop_le : ∀ (xs : List Int) (k : Nat), (∀ n ∈ xs, 1 ≤ n) → plen (xs.drop k) ≤ plen xs
  | [], k, _ => by simp
  | n :: ns, 0, _ => by simp
  | n :: ns, k + 1, h => by
    have h1 : 1 ≤ n := h n (by simp)
    have ih := plen_drop_le ns k (fun m hm => h m (by simp [hm]))
    simp only [List.drop_succ_cons, plen]
    have : 1 * plen ns ≤ n.toNat * plen ns := Nat.mul_le_mul_right _ (by omega)
    omega
theorem rmS_inS {ys : List Int} (hg : Good ys) : InS (rmS ys) (rmS ys).length := fun j hj => by
  rw [rmS_len] at hj
  rw [rmS_getD, if_pos hj]
  split
  · omega
  · next h0 =>
    have hp : ∀ n ∈ ys, 1 ≤ n := fun n hn => (good_pos hg h0 n hn).1
    have h1 := plen_drop_le ys (j + 1) hp
    rw [prod_plen (fun n hn => by have := hp n (List.mem_of_mem_drop hn); omega)]
    have h2 := hg.2.2
    rw [prod_plen (fun n hn => by have := hp n hn; omega)] at h2
    omega
theorem rsL_vi {xs ss ys : List Int} {off c : Int} {L S : List Int} {o : Int} (h : rsL xs ss off ys = (c, L, S, o)) : VI L S := by
  unfold rsL at h
  split at h
  · next hv =>
    split at h
    · next ha =>
      split at h
      · simp only [Prod.mk.injEq] at h
        obtain ⟨rfl, rfl, rfl, rfl⟩ := h
        exact ⟨ha.1, rmS_len _, rmS_inS ha.1⟩
      · simp only [Prod.mk.injEq] at h
        obtain ⟨rfl, rfl, rfl, rfl⟩ := h
        exact VI.nil
    · simp only [Prod.mk.injEq] at h
      obtain ⟨rfl, rfl, rfl, rfl⟩ := h
      exact VI.nil
  · simp only [Prod.mk.injEq] at h
    obtain ⟨rfl, rfl, rfl, rfl⟩ := h
    exact VI.nil

/-- A view as numbers. -/
abbrev V3 := List Int × List Int × Int
def DrawV (w : World) (H b : Nat) (G : Gh) (r : V3 × SS) (e : Ending) (w' : World) : Prop := ∃ (vA vB : Value), e = .returned (.agg #[vA, vB, .int .i64 r.1.2.2]) ∧ DV w' H vA vB r.1.1 r.1.2.1 ∧ VI r.1.1 r.1.2.1 ∧ ST w w' H b G r.2
/-- A code and a view. -/
abbrev V4 := Int × List Int × List Int × Int
def DrawR (w : World) (H b : Nat) (G : Gh) (r : V4 × SS) (e : Ending) (w' : World) : Prop := ∃ (sa sb : Option Addr) (ca cb : Nat), e = .returned (.agg #[.int .i64 r.1.1, .slice sa r.1.2.1.length ca, .slice sb r.1.2.2.1.length cb, .int .i64 r.1.2.2.2]) ∧ DV w' w.heap.size (.slice sa r.1.2.1.length ca) (.slice sb r.1.2.2.1.length cb) r.1.2.1 r.1.2.2.1 ∧ VI r.1.2.1 r.1.2.2.1 ∧ ST w w' H b G r.2
end Go.Proofs.Ytanbgpmbccianaa
namespace Go.Proofs.Ytanbgpmbccianaa
open Go.ChangeShapes Go.RowKit
set_option linter.unusedSimpArgs false
set_option linter.unusedVariables false
variable {G : Gh} {s t : SS}

/-- The box of an answer that is a ViewResult, and of one that is a View. -/
structure RB4 (W : World) (R : Nat) : Prop where
  r0 : W.cell? ⟨R, 0, none⟩ = some (.int .i64 0)
  r1 : W.cell? ⟨R, 1, none⟩ = some (.slice none 0 0)
  r2 : W.cell? ⟨R, 2, none⟩ = some (.slice none 0 0)
  r3 : W.cell? ⟨R, 3, none⟩ = some (.int .i64 0)
  rf : ∀ o, W.frozen? ⟨R, o, none⟩ = false
structure RB3 (W : World) (R : Nat) : Prop where
  r0 : W.cell? ⟨R, 0, none⟩ = some (.slice none 0 0)
  r1 : W.cell? ⟨R, 1, none⟩ = some (.slice none 0 0)
  r2 : W.cell? ⟨R, 2, none⟩ = some (.int .i64 0)
  rf : ∀ o, W.frozen? ⟨R, o, none⟩ = false
theorem RB4.mut {W W' : World} {R b : Nat} (h : RB4 W R) (m : Mut b W W') (hb : R ≠ b) : RB4 W' R := ⟨m.box hb h.r0, m.box hb h.r1, m.box hb h.r2, m.box hb h.r3, fun o => (m.fz _).trans (h.rf o)⟩
theorem RB3.mut {W W' : World} {R b : Nat} (h : RB3 W R) (m : Mut b W W') (hb : R ≠ b) : RB3 W' R := ⟨m.box hb h.r0, m.box hb h.r1, m.box hb h.r2, fun o => (m.fz _).trans (h.rf o)⟩
theorem RB4.bel {W W' : World} {R : Nat} (h : RB4 W R) (x : Bel W W') : RB4 W' R := ⟨Bel.box x h.r0, Bel.box x h.r1, Bel.box x h.r2, Bel.box x h.r3, fun o => (Below.frozen x (p := ⟨R, o, none⟩) (cell_lt h.r0)).trans (h.rf o)⟩
theorem RB3.bel {W W' : World} {R : Nat} (h : RB3 W R) (x : Bel W W') : RB3 W' R := ⟨Bel.box x h.r0, Bel.box x h.r1, Bel.box x h.r2, fun o => (Below.frozen x (p := ⟨R, o, none⟩) (cell_lt h.r0)).trans (h.rf o)⟩
theorem RB4.make (W : World) (R : Nat) (hR : R = W.heap.size) : RB4 (W.alloc (.cells #[.int .i64 0, .slice none 0 0, .slice none 0 0, .int .i64 0] 29)) R := by
  subst hR
  have n := fun j => new_cell W #[.int .i64 0, .slice none 0 0, .slice none 0 0, .int .i64 0] 29 W.heap.size rfl j
  exact ⟨n 0, n 1, n 2, n 3, fun o => ((Ext.refl W).alloc _ _).unfrozen (Nat.le_refl _) o⟩
theorem RB3.make (W : World) (R : Nat) (hR : R = W.heap.size) : RB3 (W.alloc (.cells #[.slice none 0 0, .slice none 0 0, .int .i64 0] 25)) R := by
  subst hR
  have n := fun j => new_cell W #[.slice none 0 0, .slice none 0 0, .int .i64 0] 25 W.heap.size rfl j
  exact ⟨n 0, n 1, n 2, fun o => ((Ext.refl W).alloc _ _).unfrozen (Nat.le_refl _) o⟩
theorem DV.below {w : World} {lo R o : Nat} {vA vB u : Value} {xs ss : List Int} (h : DV w lo vA vB xs ss) (hR : R < lo) : DV (w.setCell ⟨R, o, none⟩ u) lo vA vB xs ss :=
  ⟨ownsRow_setCell_below h.a (a := ⟨R, o, none⟩) hR _, ownsRow_setCell_below h.c (a := ⟨R, o, none⟩) hR _, h.dj⟩
theorem DV.other {w : World} {lo R o : Nat} {vA vB u : Value} {xs ss : List Int} (h : DV w lo vA vB xs ss) (h1 : vA.ownBlock ≠ some R) (h2 : vB.ownBlock ≠ some R) : DV (w.setCell ⟨R, o, none⟩ u) lo vA vB xs ss :=
  ⟨ownsRow_setCell_other h.a (a := ⟨R, o, none⟩) h1 _, ownsRow_setCell_other h.c (a := ⟨R, o, none⟩) h2 _, h.dj⟩
theorem DrawR.done {w W : World} {H b R : Nat} {c : Int} {sa sb : Option Addr} {ca cb : Nat} {xs ss : List Int} {off : Int} (hs : ST w W H b G s) (hR : w.heap.size ≤ R) (hD : DV W (R + 1) (.slice sa xs.length ca) (.slice sb ss.length cb) xs ss) (hi : VI xs ss) {v0 v1 v2 v3 : Value} :
    DrawR w H b G ((c, xs, ss, off), s) (.returned (.agg #[.int .i64 c, .slice sa xs.length ca, .slice sb ss.length cb, .int .i64 off])) ((((W.setCell ⟨R, 0, none⟩ v0).setCell ⟨R, 1, none⟩ v1).setCell ⟨R, 2, none⟩ v2).setCell ⟨R, 3, none⟩ v3) :=
  ⟨sa, sb, ca, cb, rfl, ((((hD.below (Nat.lt_succ_self R)).below (Nat.lt_succ_self R)).below (Nat.lt_succ_self R)).below (Nat.lt_succ_self R)).low (by omega), hi, (((hs.setCell hR).setCell hR).setCell hR).setCell hR⟩
theorem DrawV.done {w W : World} {H b R : Nat} {vA vB : Value} {xs ss : List Int} {off : Int} (hs : ST w W H b G s) (hR : w.heap.size ≤ R) (hD : DV W H vA vB xs ss) (h1 : vA.ownBlock ≠ some R) (h2 : vB.ownBlock ≠ some R) (hi : VI xs ss) {v0 v1 v2 : Value} :
    DrawV w H b G ((xs, ss, off), s) (.returned (.agg #[vA, vB, .int .i64 off])) (((W.setCell ⟨R, 0, none⟩ v0).setCell ⟨R, 1, none⟩ v1).setCell ⟨R, 2, none⟩ v2) :=
  ⟨vA, vB, rfl, ((hD.other h1 h2).other h1 h2).other h1 h2, hi, ((hs.setCell hR).setCell hR).setCell hR⟩
/-- Inside a draw, with a view in a box at B. -/
structure SB2 (w W : World) (G : Gh) (s : SS) (H b B : Nat) (vA vB : Value) (xs ss : List Int) (off : Int) : Prop where
  st : ST w W H b G s
  dv : DV W H vA vB xs ss
  c0 : W.cell? ⟨B, 0, none⟩ = some vA
  c1 : W.cell? ⟨B, 1, none⟩ = some vB
  c2 : W.cell? ⟨B, 2, none⟩ = some (.int .i64 off)
  hB : H ≤ B
  rb : RB4 W (B + 1)
theorem SB2.next {w W : World} {H b B : Nat} {vA vB : Value} {xs ss : List Int} {off : Int} (h : SB2 w W G s H b B vA vB xs ss off) (m : Int) :
    Calls Try.prog 13 #[.pointer (some ⟨b, 0, none⟩), .int .i64 m] W fun e W' => ∃ (v : Int) (t : SS), nextL G.ds s m = (v, t) ∧ e = .returned (.int .i64 v) ∧ (0 ≤ v ∧ (v < m ∨ v = 0)) ∧ SB2 w W' G t H b B vA vB xs ss off :=
  (h.st.next m).mono fun e W' hh => by
    obtain ⟨v, t, h0, h1, h2, h3, h4, h5⟩ := hh
    have hb := h.st.bH
    have hB := h.hB
    exact ⟨v, t, h0, h1, ⟨h2, h3⟩, ⟨h4, h.dv.mut h5 hb, h5.box (by omega) h.c0, h5.box (by omega) h.c1, h5.box (by omega) h.c2, hB, h.rb.mut h5 (by omega)⟩⟩
theorem SB2.bel {w W W' : World} {H b B : Nat} {vA vB : Value} {xs ss : List Int} {off : Int} (h : SB2 w W G s H b B vA vB xs ss off) (x : Bel W W') : SB2 w W' G s H b B vA vB xs ss off :=
  ⟨h.st.bel x, h.dv.bel x, Bel.box x h.c0, Bel.box x h.c1, Bel.box x h.c2, h.hB, h.rb.bel x⟩
theorem SB2.box {w : World} {H b : Nat} {vA vB : Value} {xs ss : List Int} (off : Int) (hs : ST w w H b G s) (hV : DV w H vA vB xs ss) : SB2 w ((w.alloc (.cells #[vA, vB, .int .i64 off] 25)).alloc (.cells #[.int .i64 0, .slice none 0 0, .slice none 0 0, .int .i64 0] 29)) G s H b w.heap.size vA vB xs ss off := by
  have n1 := fun j => new_cell w #[vA, vB, .int .i64 off] 25 w.heap.size rfl j
  have y : Bel (w.alloc (.cells #[vA, vB, .int .i64 off] 25)) ((w.alloc (.cells #[vA, vB, .int .i64 off] 25)).alloc (.cells #[.int .i64 0, .slice none 0 0, .slice none 0 0, .int .i64 0] 29)) := ((Ext.refl _).alloc _ _).bl
  exact ⟨(hs.alloc _ _).alloc _ _, (hV.bel ((Ext.refl w).alloc _ _).bl).bel y, Bel.box y (n1 0), Bel.box y (n1 1), Bel.box y (n1 2), hs.hH, RB4.make _ _ (by simp)⟩
theorem DV.at {w : World} {H : Nat} {vA vB : Value} {xs ss : List Int} (h : DV w H vA vB xs ss) (j : Nat) (hj : j < xs.length) : ∃ g cap, vA = .slice (some ⟨g, 0, none⟩) xs.length cap ∧ H ≤ g ∧ w.cell? ⟨g, j, none⟩ = some (.int .i64 (xs.getD j 0)) ∧ ∀ o, w.frozen? ⟨g, o, none⟩ = false := by
  have h1 := h.a
  rcases h1.2 with ⟨_, h2⟩ | ⟨g, cap, cur, h2, h3, _⟩
  · omega
  · subst h2
    obtain ⟨hr, _⟩ := row_of_own h1
    have := hr j hj
    rw [Nat.zero_add] at this
    exact ⟨g, cap, rfl, h3, this, fun o => h1.frozenAt o⟩

/-- l2DrawSlice, as numbers. -/
def sliceD (ds : List Int) (s : SS) (v : V3) (a : Nat) : V4 × SS :=
  match nextL ds s 2 with
  | (v1, s1) => match nextL ds s1 (v.1.getD a 0 + 1) with
    | (v2, s2) => match nextL ds s2 2 with
      | (v3, s3) => match nextL ds s3 2 with
        | (v4, s4) => match nextL ds s4 3 with
          | (v5, s5) =>
            if v5 = 0 then match nextL ds s5 2 with
              | (v6, s6) => match nextL ds s6 2 with
                | (v7, s7) => (slL v.1 v.2.1 v.2.2 a (v.1.getD a 0 - 1 - v6) (-v.1.getD a 0 - 1 + v7) (-(1 + v1)), s7)
            else (slL v.1 v.2.1 v.2.2 a (v2 - v3 * v.1.getD a 0) (v.1.getD a 0 - v4) (1 + v1), s5)

set_option maxRecDepth 100000 in
set_option maxHeartbeats 1000000 in
theorem drawSl_any {w : World} {H b : Nat} {vA vB : Value} {xs ss : List Int} (off : Int) (a : Nat) (hV : DV w H vA vB xs ss) (hI : VI xs ss) (ha : a < xs.length) (hs : ST w w H b G s) {r : V4 × SS} (hr : sliceD G.ds s (xs, ss, off) a = r) :
    Calls Try.prog 41 #[.agg #[vA, vB, .int .i64 off], .int .i64 a, .pointer (some ⟨b, 0, none⟩)] w fun e w' => DrawR w H b G r e w' := by
  have HR := hide hr
  clear hr
  have S0 := hide (SB2.box off hs hV)
  have HI := hide hI
  have hn := hI.1.2.1 a ha
  have hl4 := hI.1.1
  have hl5 : Hid (ss.length = xs.length) := hI.2.1
  obtain ⟨g, cap, rfl, hg, hc, _⟩ := S0.out.dv.at a ha
  obtain ⟨sb, cb, rfl⟩ := own_form2 hV.c
  have a0 : (0 : Int) ≤ (a : Int) := Int.natCast_nonneg _
  have a1 : (a : Int) < (xs.length : Int) := by omega
  have c0 := S0.out.c0
  have c1 := S0.out.c1
  have c2 := S0.out.c2
  clear hV hs hI
  generalize hN : xs.getD a 0 = N at hn hc
  have HN := hide hN
  clear hN
  go_enter Try.func41, Try.ntmps41
  go_wp2_with fail
  clear c0 c1 c2 hc
  generalize (w.alloc (.cells #[.slice (some ⟨g, 0, none⟩) xs.length cap, .slice sb ss.length cb, .int .i64 off] 25)).alloc (.cells #[.int .i64 0, .slice none 0 0, .slice none 0 0, .int .i64 0] 29) = V0 at S0 ⊢
  refine (S0.out.next 2).mono ?_
  rintro e W1 ⟨v1, t1, Q1, rfl, b1, s1⟩
  have S1 := hide s1
  have R1 := hide Q1
  clear s1 S0 Q1
  go_wp2_with fail
  refine (S1.out.next (N + 1)).mono ?_
  rintro e W2 ⟨v2, t2, Q2, rfl, b2, s2⟩
  have S2 := hide s2
  have R2 := hide Q2
  clear s2 S1 Q2
  go_wp2_with fail
  refine (S2.out.next 2).mono ?_
  rintro e W3 ⟨v3, t3, Q3, rfl, b3, s3⟩
  have S3 := hide s3
  have R3 := hide Q3
  clear s3 S2 Q3
  have bm : 0 ≤ v3 * N ∧ v3 * N ≤ 4096 := by
    rcases (show v3 = 0 ∨ v3 = 1 by omega) with q | q
    · subst q; simp
    · subst q; simp; omega
  go_wp2_with fail
  refine (S3.out.next 2).mono ?_
  rintro e W4 ⟨v4, t4, Q4, rfl, b4, s4⟩
  have S4 := hide s4
  have R4 := hide Q4
  clear s4 S3 Q4
  go_wp2_with fail
  refine (S4.out.next 3).mono ?_
  rintro e W5 ⟨v5, t5, Q5, rfl, b5, s5⟩
  have S5 := hide s5
  have R5 := hide Q5
  clear s5 S4 Q5
  rcases Classical.em (v5 = 0) with q5 | q5
  · subst q5
    go_wp2_with fail
    refine (S5.out.next 2).mono ?_
    rintro e W6 ⟨v6, t6, Q6, rfl, b6, s6⟩
    have S6 := hide s6
    have R6 := hide Q6
    clear s6 S5 Q6
    go_wp2_with fail
    refine (S6.out.next 2).mono ?_
    rintro e W7 ⟨v7, t7, Q7, rfl, b7, s7⟩
    have S7 := hide s7
    have R7 := hide Q7
    have c0 := s7.c0
    have c1 := s7.c1
    have c2 := s7.c2
    clear s7 S6 Q7
    go_wp2_with fail
    rcases hq : slL xs ss off a (N - 1 - v6) (-N - 1 + v7) (-(1 + v1)) with ⟨c, L, S, o⟩
    refine (sSL_own (own_ints S7.out.dv.a) (own_ints S7.out.dv.c) off a (N - 1 - v6) (-N - 1 + v7) (-(1 + v1)) (by omega) (by rw [hl5.out]; omega) hq).mono ?_
    rintro e W8 h8
    obtain ⟨sa', sb', ca', cb', rfl, hD, hB⟩ := h8.dv (H := w.heap.size + 1 + 1) (cell_lt S7.out.rb.r0)
    have HD := hide hD
    have hvi := hide (slL_vi hq)
    have HQ := hide hq
    have S8 := hide (S7.out.bel hB)
    have r0 := S8.out.rb.r0
    have r1 := S8.out.rb.r1
    have r2 := S8.out.rb.r2
    have r3 := S8.out.rb.r3
    have rf := S8.out.rb.rf
    clear hq h8 hD hB c0 c1 c2
    go_wp2
    have er : r = ((c, L, S, o), t7) := by
      rw [← HR.out]
      simp only [sliceD, HN.out, R1.out, R2.out, R3.out, R4.out, R5.out, R6.out, R7.out, if_true, HQ.out]
    subst er
    exact bodyPost_ret (v := .agg #[.int .i64 c, .slice sa' L.length ca', .slice sb' S.length cb', .int .i64 o]) (by simp [results, Try.results41, go_sem, set4_0 r0, set4_1 r1, set4_2 r2, set4_3 r3]) rfl (DrawR.done S8.out.st (by omega) HD.out hvi.out)
  · have d5 : (v5 == 0) = false := by simp [q5]
    have c0 := S5.out.c0
    have c1 := S5.out.c1
    have c2 := S5.out.c2
    go_wp2_with fail
    rcases hq : slL xs ss off a (v2 - v3 * N) (N - v4) (1 + v1) with ⟨c, L, S, o⟩
    refine (sSL_own (own_ints S5.out.dv.a) (own_ints S5.out.dv.c) off a (v2 - v3 * N) (N - v4) (1 + v1) (by omega) (by rw [hl5.out]; omega) hq).mono ?_
    rintro e W8 h8
    obtain ⟨sa', sb', ca', cb', rfl, hD, hB⟩ := h8.dv (H := w.heap.size + 1 + 1) (cell_lt S5.out.rb.r0)
    have HD := hide hD
    have hvi := hide (slL_vi hq)
    have HQ := hide hq
    have S8 := hide (S5.out.bel hB)
    have r0 := S8.out.rb.r0
    have r1 := S8.out.rb.r1
    have r2 := S8.out.rb.r2
    have r3 := S8.out.rb.r3
    have rf := S8.out.rb.rf
    clear hq h8 hD hB c0 c1 c2
    go_wp2
    have er : r = ((c, L, S, o), t5) := by
      rw [← HR.out]
      simp only [sliceD, HN.out, R1.out, R2.out, R3.out, R4.out, R5.out, if_neg q5, HQ.out]
    subst er
    exact bodyPost_ret (v := .agg #[.int .i64 c, .slice sa' L.length ca', .slice sb' S.length cb', .int .i64 o]) (by simp [results, Try.results41, go_sem, set4_0 r0, set4_1 r1, set4_2 r2, set4_3 r3]) rfl (DrawR.done S8.out.st (by omega) HD.out hvi.out)
end Go.Proofs.Ytanbgpmbccianaa
namespace Go.Proofs.Ytanbgpmbccianaa
open Go.ChangeShapes Go.RowKit
set_option linter.unusedSimpArgs false
set_option linter.unusedVariables false
variable {G : Gh} {s t : SS}

/-- A list that a draw builds. -/
structure LB2 (w W : World) (G : Gh) (s : SS) (H b : Nat) (v : Value) (L : List Int) : Prop where
  st : ST w W H b G s
  own : W.ownsRow w.heap.size 2 1 v L.length (L.map (Value.int .i64))
theorem LB2.mut {w W W' : World} {H b : Nat} {v : Value} {L : List Int} (h : LB2 w W G s H b v L) (k : ST w W' H b G t) (m : Mut b W W') : LB2 w W' G t H b v L :=
  ⟨k, own_mut h.own m (fun e => by have := (h.own.lt b e).1; have := h.st.bH; have := h.st.hH; omega)⟩
theorem LB2.bel {w W W' : World} {H b : Nat} {v : Value} {L : List Int} (h : LB2 w W G s H b v L) (x : Bel W W') : LB2 w W' G s H b v L := ⟨h.st.bel x, own_keep h.own x⟩
theorem LB2.next {w W : World} {H b : Nat} {v : Value} {L : List Int} (h : LB2 w W G s H b v L) (m : Int) :
    Calls Try.prog 13 #[.pointer (some ⟨b, 0, none⟩), .int .i64 m] W fun e W' => ∃ (x : Int) (t : SS), nextL G.ds s m = (x, t) ∧ e = .returned (.int .i64 x) ∧ (0 ≤ x ∧ (x < m ∨ x = 0)) ∧ LB2 w W' G t H b v L :=
  (h.st.next m).mono fun e W' hh => by
    obtain ⟨x, t, h0, h1, h2, h3, h4, h5⟩ := hh
    exact ⟨x, t, h0, h1, ⟨h2, h3⟩, h.mut h4 h5⟩
theorem LB2.step {w wr w3 : World} {H b : Nat} {v v3 : Value} {L : List Int} (h : LB2 w wr G s H b v L) (x : Int)
    (hown : w3.ownsRow w.heap.size 2 1 v3 (L.length + 1) (L.map (Value.int .i64) ++ [.int .i64 x])) (hgrow : (wr.alloc (.cells #[.int .i64 x] 2)).grownBy w3 v.ownBlock) : LB2 w w3 G s H b v3 (L ++ [x]) := by
  refine ⟨(h.st.alloc _ _).own hgrow (fun j hj => (h.own.lt j hj).1), ?_⟩
  rw [List.length_append, List.map_append]
  exact hown
theorem LB2.szP {w wr : World} {H b : Nat} {v : Value} {L : List Int} (h : LB2 w wr G s H b v L) (x : Int) : w.heap.size ≤ (wr.alloc (.cells #[.int .i64 x] 2)).heap.size := by
  have h1 : wr.heap.size ≤ (wr.alloc (.cells #[.int .i64 x] 2)).heap.size := Below.size ((Ext.refl wr).alloc #[.int .i64 x] 2).bl
  exact Nat.le_trans h.st.sz h1
theorem LB2.start {w : World} {H b : Nat} (hs : ST w w H b G s) : LB2 w (w.alloc (.cells #[] 2)) G s H b (.slice (some ⟨w.heap.size, 0, none⟩) 0 0) [] :=
  ⟨hs.alloc _ _, World.ownsRow_made (base := w.heap.size) (e := 2) (size := 1) w #[] 0 (Nat.le_refl _) (by unfold maxLen; omega) rfl⟩
/-- One length, and a whole shape, as numbers. -/
def oneAxis (ds : List Int) (s : SS) : Int × SS :=
  match nextL ds s 12 with
  | (k, s1) => if k = 11 then (match nextL ds s1 2 with
      | (z, s2) => (if z = 0 then 0 else 4, s2)) else (1 + k % 4, s1)
def axesD (ds : List Int) (s : SS) : Nat → List Int × SS
  | 0 => ([], s)
  | k + 1 => ((axesD ds s k).1 ++ [(oneAxis ds (axesD ds s k).2).1], (oneAxis ds (axesD ds s k).2).2)
theorem axesD_len (ds : List Int) (s : SS) : ∀ k, (axesD ds s k).1.length = k
  | 0 => rfl
  | k + 1 => by simp [axesD, axesD_len ds s k]
def shapeD (ds : List Int) (s : SS) : List Int × SS := axesD ds (nextL ds s 4).2 (nextL ds s 4).1.toNat
/-- A drawn list. -/
def DrawL (w : World) (H b : Nat) (G : Gh) (r : List Int × SS) (e : Ending) (w' : World) : Prop := ∃ (sa : Option Addr) (cap : Nat), e = .returned (.slice sa r.1.length cap) ∧ r.1.length ≤ 4 ∧ LB2 w w' G r.2 H b (.slice sa r.1.length cap) r.1
theorem axes_step {w w3 : World} {H b k c3 : Nat} {s3 : Option Addr} {T : SS} {L : List Int} {x : Int} (h : LB2 w w3 G t H b (.slice s3 (L.length + 1) c3) (L ++ [x])) (hA : axesD G.ds T k = (L, s)) (ho : oneAxis G.ds s = (x, t)) : LB2 w w3 G (axesD G.ds T (k + 1)).2 H b (.slice s3 (L.length + 1) c3) (axesD G.ds T (k + 1)).1 := by
  rw [axesD, hA]
  dsimp only
  rw [ho]
  exact h

set_option maxRecDepth 100000 in
set_option maxHeartbeats 1000000 in
theorem drawSh_any {w : World} {H b : Nat} {s0 : SS} (hs : ST w w H b G s0) : Calls Try.prog 15 #[.pointer (some ⟨b, 0, none⟩)] w fun e w' => DrawL w H b G (shapeD G.ds s0) e w' := by
  obtain ⟨i0, hi0, hz0, hz1, hz2⟩ := info_parts info2
  have S0 := hide (LB2.start hs)
  clear hs
  go_enter Try.func15, Try.ntmps15
  go_wp2_with fail
  generalize w.alloc (.cells #[] 2) = V0 at S0 ⊢
  refine (S0.out.next 4).mono ?_
  rintro e W1 ⟨v1, t1, Q1, rfl, b1, s1⟩
  have S1 := hide s1
  have R1 := hide Q1
  clear s1 S0 Q1
  obtain ⟨n, hn⟩ : ∃ n : Nat, v1 = (n : Int) := ⟨v1.toNat, by omega⟩
  subst hn
  go_wp2_with fail
  go_loopw [3, 4] (fun o i wr => ∃ k : Nat, i = .int .i64 ((n : Int) - k) ∧ k ≤ n ∧ (∃ s c, o = .slice s k c) ∧ LB2 w wr G (axesD G.ds t1 k).2 H b o (axesD G.ds t1 k).1) (fun o i _ => (intOf i).toNat)
  case atStart => exact ⟨0, by simp, by omega, ⟨_, _, rfl⟩, S1.out⟩
  case round =>
    obtain ⟨k0, rfl, hd, ⟨s, c, rfl⟩, hL⟩ := hrel
    rcases hA : axesD G.ds t1 k0 with ⟨L, sk⟩
    have hLl := axesD_len G.ds t1 k0
    rw [hA] at hL hLl
    have HA := hide hA
    obtain rfl : k0 = L.length := hLl.symm
    clear hA hLl
    have HL := hide hL
    clear hL
    by_cases hp : L.length < n
    · have hp1 : (0 : Int) < (n : Int) - (L.length : Int) := by omega
      go_wp2_with fail
      refine (HL.out.next 12).mono ?_
      rintro e W2 ⟨k, t2, Q2, rfl, bk, s2⟩
      have S2 := hide s2
      have R2 := hide Q2
      clear s2 HL Q2
      rcases Classical.em (k = 11) with hk | hk
      · subst hk
        go_wp2_with fail
        refine (S2.out.next 2).mono ?_
        rintro e W3 ⟨z, t3, Q3, rfl, bz, s3⟩
        have S3 := hide s3
        have R3 := hide Q3
        clear s3 S2 Q3
        rcases Classical.em (z = 0) with hz | hz
        · subst hz
          go_wp2_with (at_builtin; (refine wpList_append_own _ rfl _ _ 23 rfl w.heap.size 2 i0 (.int .i64 0) 1 8 Try.underlying23 hi0 hz0 hz1 hz2 rfl (by decide) _ _ _ rfl (S3.out.own.alloc _) ⟨W3.heap.size, 0, none⟩ 1 1 [.int .i64 (0)] rfl rfl (cell_one_new _ _ _) (one_val _) (by unfold maxLen; omega) (by omega) (S3.out.szP (0)) ?_); intro v3 w3 hown3 hgrow3 hnil3)
          have HSt := hide (S3.out.step (0) hown3 hgrow3)
          obtain ⟨s3, c3, rfl⟩ := own_form2 hown3
          clear hown3 hgrow3 hnil3
          go_wp2
          go_roundw
          · exact ⟨L.length + 1, by go_num, by omega, ⟨s3, c3, rfl⟩, axes_step HSt.out HA.out (by simp only [oneAxis, R2.out, R3.out, if_true])⟩
          · simp [intOf]; omega
        · have dz : (z == 0) = false := by simp [hz]
          go_wp2_with (at_builtin; (refine wpList_append_own _ rfl _ _ 23 rfl w.heap.size 2 i0 (.int .i64 0) 1 8 Try.underlying23 hi0 hz0 hz1 hz2 rfl (by decide) _ _ _ rfl (S3.out.own.alloc _) ⟨W3.heap.size, 0, none⟩ 1 1 [.int .i64 (4)] rfl rfl (cell_one_new _ _ _) (one_val _) (by unfold maxLen; omega) (by omega) (S3.out.szP (4)) ?_); intro v3 w3 hown3 hgrow3 hnil3)
          have HSt := hide (S3.out.step (4) hown3 hgrow3)
          obtain ⟨s3, c3, rfl⟩ := own_form2 hown3
          clear hown3 hgrow3 hnil3
          go_wp2
          go_roundw
          · exact ⟨L.length + 1, by go_num, by omega, ⟨s3, c3, rfl⟩, axes_step HSt.out HA.out (by simp only [oneAxis, R2.out, R3.out, if_true, if_neg hz])⟩
          · simp [intOf]; omega
      · have dk : (k == 11) = false := by simp [hk]
        go_wp2_with (at_builtin; (refine wpList_append_own _ rfl _ _ 23 rfl w.heap.size 2 i0 (.int .i64 0) 1 8 Try.underlying23 hi0 hz0 hz1 hz2 rfl (by decide) _ _ _ rfl (S2.out.own.alloc _) ⟨W2.heap.size, 0, none⟩ 1 1 [.int .i64 (1 + k % 4)] rfl rfl (cell_one_new _ _ _) (one_val _) (by unfold maxLen; omega) (by omega) (S2.out.szP (1 + k % 4)) ?_); intro v3 w3 hown3 hgrow3 hnil3)
        have HSt := hide (S2.out.step (1 + k % 4) hown3 hgrow3)
        obtain ⟨s3, c3, rfl⟩ := own_form2 hown3
        clear hown3 hgrow3 hnil3
        go_wp2
        go_roundw
        · exact ⟨L.length + 1, by go_num, by omega, ⟨s3, c3, rfl⟩, axes_step HSt.out HA.out (by simp only [oneAxis, R2.out, if_neg hk])⟩
        · simp [intOf]; omega
    · have hp1 : ¬ (0 : Int) < (n : Int) - (L.length : Int) := by omega
      go_wp2
      go_ret
      have hn : n = L.length := by omega
      have e : shapeD G.ds s0 = (L, sk) := by
        unfold shapeD
        rw [R1.out]
        show axesD G.ds t1 ((n : Int)).toNat = _
        rw [Int.toNat_natCast, hn]
        exact HA.out
      rw [e]
      exact ⟨s, c, rfl, by show L.length ≤ 4; omega, HL.out⟩
end Go.Proofs.Ytanbgpmbccianaa
namespace Go.Proofs.Ytanbgpmbccianaa
open Go.ChangeShapes Go.RowKit
set_option linter.unusedSimpArgs false
set_option linter.unusedVariables false
variable {G : Gh} {s t : SS}

theorem run_f43 (w : World) (c o : Int) (sa sb : Option Addr) (n m ca cb : Nat) : (Instr.field 29 (.agg #[.int .i64 c, .slice sa n ca, .slice sb m cb, .int .i64 o]) 1).run Try.prog w = .ok (.agg #[.slice sa n ca, .slice sb m cb, .int .i64 o]) w := by
  simp [Instr.field, run_underlying Try.underlying29, run_underlying Try.underlying25, run_underlying Try.underlying2, go_sem, part, isAgg, asAgg]
theorem run_f43c (w : World) (c o : Int) (sa sb : Option Addr) (n m ca cb : Nat) : (Instr.field 29 (.agg #[.int .i64 c, .slice sa n ca, .slice sb m cb, .int .i64 o]) 0).run Try.prog w = .ok (.int .i64 c) w := by
  simp [Instr.field, run_underlying Try.underlying29, run_underlying Try.underlying25, run_underlying Try.underlying2, go_sem, part, isAgg, asAgg]
attribute [local go_sem] run_f43 run_f43c
/-- A view of the call's own. -/
def DenseOk (w : World) (v : V3) (e : Ending) (w' : World) : Prop := ∃ (sa sb : Option Addr) (ca cb : Nat), e = .returned (.agg #[.slice sa v.1.length ca, .slice sb v.2.1.length cb, .int .i64 v.2.2]) ∧ DV w' w.heap.size (.slice sa v.1.length ca) (.slice sb v.2.1.length cb) v.1 v.2.1 ∧ VI v.1 v.2.1 ∧ Bel w w'
def denseV (ys : List Int) (off : Int) : V3 := ((rsL [cntL ys] [1] 0 ys).2.1, (rsL [cntL ys] [1] 0 ys).2.2.1, off)

set_option maxRecDepth 100000 in
set_option maxHeartbeats 1000000 in
theorem dense_any {w : World} {v : Value} {ys : List Int} (off : Int) (hy : Ints w v ys) (hl : ys.length ≤ 4) {r : V3} (hr : denseV ys off = r) : Calls Try.prog 14 #[v, .int .i64 off] w fun e w' => DenseOk w r e w' := by
  have HR := hide hr
  clear hr
  have R0 := hide (RB3.make w w.heap.size rfl)
  have HY := hide (hy.ext ((Ext.refl w).alloc #[.slice none 0 0, .slice none 0 0, .int .i64 0] 25))
  obtain ⟨sv, cv, rfl, _⟩ := hy
  go_enter Try.func14, Try.ntmps14
  go_wp2_with fail
  refine (l2Count_any HY.out (by omega)).mono ?_
  rintro e w1 ⟨rfl, rfl⟩
  generalize hcn : cntL ys = cn
  have HCN := hide hcn
  clear hcn
  generalize hV : w.alloc (.cells #[.slice none 0 0, .slice none 0 0, .int .i64 0] 25) = V0 at R0 HY ⊢
  have n1 := fun j => new_cell V0 #[.int .i64 cn] 2 V0.heap.size rfl j
  have n2 := fun j => new_cell (V0.alloc (.cells #[.int .i64 cn] 2)) #[.int .i64 1] 2 (V0.heap.size + 1) (by simp) j
  have y1 : Ext V0 (V0.alloc (.cells #[.int .i64 cn] 2)) := (Ext.refl _).alloc _ _
  have y2 : Ext (V0.alloc (.cells #[.int .i64 cn] 2)) ((V0.alloc (.cells #[.int .i64 cn] 2)).alloc (.cells #[.int .i64 1] 2)) := (Ext.refl _).alloc _ _
  have I1 : Hid (Ints ((V0.alloc (.cells #[.int .i64 cn] 2)).alloc (.cells #[.int .i64 1] 2)) (.slice (some ⟨V0.heap.size, 0, none⟩) 1 1) [cn]) := ⟨_, 1, rfl, Or.inr ⟨_, 0, rfl, fun j hj => by
    obtain rfl : j = 0 := by simp at hj; omega
    exact y2.box (n1 0)⟩⟩
  have I2 : Hid (Ints ((V0.alloc (.cells #[.int .i64 cn] 2)).alloc (.cells #[.int .i64 1] 2)) (.slice (some ⟨V0.heap.size + 1, 0, none⟩) 1 1) [1]) := ⟨_, 1, rfl, Or.inr ⟨_, 0, rfl, fun j hj => by
    obtain rfl : j = 0 := by simp at hj; omega
    exact n2 0⟩⟩
  have HY2 := hide ((HY.out.ext y1).ext y2)
  have R2 := hide ((R0.out.bel y1.bl).bel y2.bl)
  have BB : Hid (Bel w ((V0.alloc (.cells #[.int .i64 cn] 2)).alloc (.cells #[.int .i64 1] 2))) := by
    show Bel w _
    rw [← hV]
    exact (((((Ext.refl w).alloc _ _).alloc _ _).alloc _ _)).bl
  clear n1 n2 y1 y2 R0 HY hV
  go_wp2_with fail
  rcases hq : rsL [cn] [1] 0 ys with ⟨c, L, S, o⟩
  refine (sRS_own I1.out I2.out HY2.out 0 (by simp) (by simp) (by omega) hq).mono ?_
  rintro e W8 h8
  obtain ⟨sa', sb', ca', cb', rfl, hD, hB⟩ := h8.dv (H := w.heap.size + 1) (cell_lt R2.out.r0)
  have HD := hide hD
  have hvi := hide (rsL_vi hq)
  have R8 := hide (R2.out.bel hB)
  have B8 := hide (Bel.tr BB.out hB)
  have er : r = (L, S, off) := by
    rw [← HR.out]
    unfold denseV
    rw [HCN.out, hq]
  subst er
  clear hq h8 hD hB
  have y8 : Ext W8 (W8.alloc (.cells #[.slice sa' L.length ca', .slice sb' S.length cb', .int .i64 off] 25)) := (Ext.refl _).alloc _ _
  have R9 := R8.out.bel y8.bl
  have r0 := R9.r0
  have r1 := R9.r1
  have r2 := R9.r2
  have rf := R9.rf
  have D9 := hide (HD.out.bel y8.bl)
  have B9 := hide (Bel.tr B8.out y8.bl)
  clear y8 R8 R9 HD B8
  go_wp2
  exact bodyPost_ret (v := .agg #[.slice sa' L.length ca', .slice sb' S.length cb', .int .i64 off]) (by simp [results, Try.results14, go_sem, set3_0 r0, set3_1 r1, set3_2 r2]) rfl ⟨sa', sb', ca', cb', rfl, (((D9.out.below (Nat.lt_succ_self _)).below (Nat.lt_succ_self _)).below (Nat.lt_succ_self _)).low (Nat.le_succ _), hvi.out, ((B9.out.setCell (Nat.le_refl _) _).setCell (Nat.le_refl _) _).setCell (Nat.le_refl _) _⟩
end Go.Proofs.Ytanbgpmbccianaa
namespace Go.Proofs.Ytanbgpmbccianaa
open Go.ChangeShapes Go.RowKit
set_option linter.unusedSimpArgs false
set_option linter.unusedVariables false
variable {G : Gh} {s t : SS}

theorem ST.trans {w W W' : World} {H b : Nat} (h : ST w W H b G s) (k : ST W W' H b G t) : ST w W' H b G t := ⟨k.src, gb_tr h.gb k.gb, h.hH⟩
theorem gb_cell {W W' : World} {b B o : Nat} {v : Value} (x : W.grownBy W' (some b)) (hB : B ≠ b) (h : W.cell? ⟨B, o, none⟩ = some v) : W'.cell? ⟨B, o, none⟩ = some v :=
  x.cell h (fun e => hB (by injection e))
theorem gb_fz {W W' : World} {b B : Nat} (x : W.grownBy W' (some b)) (hB : B ≠ b) (hl : B < W.heap.size) (o : Nat) : W'.frozen? ⟨B, o, none⟩ = W.frozen? ⟨B, o, none⟩ :=
  World.frozen?_of_block (x.block B hl (fun e => hB (by injection e)))
theorem RB3.gb {W W' : World} {R b : Nat} (h : RB3 W R) (x : W.grownBy W' (some b)) (hb : R ≠ b) : RB3 W' R := ⟨gb_cell x hb h.r0, gb_cell x hb h.r1, gb_cell x hb h.r2, fun o => (gb_fz x hb (cell_lt h.r0) o).trans (h.rf o)⟩

/-- Inside l2Turn: v in its box, the answer's box, and r in its box. -/
structure TB (w W : World) (G : Gh) (s : SS) (H b : Nat) (vA vB : Value) (xs ss : List Int) (off : Int) (c : Int) (rA rB : Value) (L S : List Int) (ro : Int) : Prop where
  st : ST w W H b G s
  dv : DV W H vA vB xs ss
  c0 : W.cell? ⟨w.heap.size, 0, none⟩ = some vA
  c1 : W.cell? ⟨w.heap.size, 1, none⟩ = some vB
  c2 : W.cell? ⟨w.heap.size, 2, none⟩ = some (.int .i64 off)
  rb : RB3 W (w.heap.size + 1)
  e0 : W.cell? ⟨w.heap.size + 1 + 1, 0, none⟩ = some (.int .i64 c)
  e1 : W.cell? ⟨w.heap.size + 1 + 1, 1, none⟩ = some rA
  e2 : W.cell? ⟨w.heap.size + 1 + 1, 2, none⟩ = some rB
  e3 : W.cell? ⟨w.heap.size + 1 + 1, 3, none⟩ = some (.int .i64 ro)
  ef : ∀ o, W.frozen? ⟨w.heap.size + 1 + 1, o, none⟩ = false
  rv : DV W (w.heap.size + 3) rA rB L S
  sz : w.heap.size + 3 ≤ W.heap.size
theorem TB.gb {w W W' : World} {H b : Nat} {vA vB : Value} {xs ss : List Int} {off c : Int} {rA rB : Value} {L S : List Int} {ro : Int} (h : TB w W G s H b vA vB xs ss off c rA rB L S ro) (k : ST w W' H b G t) (x : W.grownBy W' (some b)) : TB w W' G t H b vA vB xs ss off c rA rB L S ro := by
  have hb := h.st.bH
  have hH := h.st.hH
  exact ⟨k, h.dv.keep x hb, gb_cell x (by omega) h.c0, gb_cell x (by omega) h.c1, gb_cell x (by omega) h.c2, h.rb.gb x (by omega), gb_cell x (by omega) h.e0, gb_cell x (by omega) h.e1, gb_cell x (by omega) h.e2, gb_cell x (by omega) h.e3, fun o => (gb_fz x (by omega) (cell_lt h.e0) o).trans (h.ef o), h.rv.keep x (by omega), Nat.le_trans h.sz x.size⟩
theorem TB.bel {w W W' : World} {H b : Nat} {vA vB : Value} {xs ss : List Int} {off c : Int} {rA rB : Value} {L S : List Int} {ro : Int} (h : TB w W G s H b vA vB xs ss off c rA rB L S ro) (x : Bel W W') : TB w W' G s H b vA vB xs ss off c rA rB L S ro :=
  h.gb (h.st.bel x) (gb_bel b x)
theorem TB.next {w W : World} {H b : Nat} {vA vB : Value} {xs ss : List Int} {off c : Int} {rA rB : Value} {L S : List Int} {ro : Int} (h : TB w W G s H b vA vB xs ss off c rA rB L S ro) (m : Int) :
    Calls Try.prog 13 #[.pointer (some ⟨b, 0, none⟩), .int .i64 m] W fun e W' => ∃ (v : Int) (t : SS), nextL G.ds s m = (v, t) ∧ e = .returned (.int .i64 v) ∧ (0 ≤ v ∧ (v < m ∨ v = 0)) ∧ TB w W' G t H b vA vB xs ss off c rA rB L S ro :=
  (h.st.next m).mono fun e W' hh => by
    obtain ⟨v, t, h0, h1, h2, h3, h4, h5⟩ := hh
    exact ⟨v, t, h0, h1, ⟨h2, h3⟩, h.gb h4 (gb_mut h5)⟩
theorem TB.setR {w W : World} {H b : Nat} {vA vB : Value} {xs ss : List Int} {off c : Int} {rA rB : Value} {L S : List Int} {ro : Int} (h : TB w W G s H b vA vB xs ss off c rA rB L S ro) (h1 : ∀ g, vA.ownBlock = some g → g < w.heap.size) (h2 : ∀ g, vB.ownBlock = some g → g < w.heap.size)
    {c' ro' : Int} {rA' rB' : Value} {L' S' : List Int} (hr : DV W (w.heap.size + 3) rA' rB' L' S') :
    TB w ((((W.setCell ⟨w.heap.size + 1 + 1, 0, none⟩ (.int .i64 c')).setCell ⟨w.heap.size + 1 + 1, 1, none⟩ rA').setCell ⟨w.heap.size + 1 + 1, 2, none⟩ rB').setCell ⟨w.heap.size + 1 + 1, 3, none⟩ (.int .i64 ro')) G s H b vA vB xs ss off c' rA' rB' L' S' ro' := by
  have m := chain4m (w.heap.size + 1 + 1) W (.int .i64 c') rA' rB' (.int .i64 ro')
  have n1 : vA.ownBlock ≠ some (w.heap.size + 1 + 1) := fun e => by have := h1 _ e; omega
  have n2 : vB.ownBlock ≠ some (w.heap.size + 1 + 1) := fun e => by have := h2 _ e; omega
  have hle : w.heap.size ≤ w.heap.size + 1 + 1 := by omega
  have hlt : w.heap.size + 1 + 1 < w.heap.size + 3 := by omega
  exact ⟨(((h.st.setCell hle).setCell hle).setCell hle).setCell hle, (((h.dv.other n1 n2).other n1 n2).other n1 n2).other n1 n2, m.box (by omega) h.c0, m.box (by omega) h.c1, m.box (by omega) h.c2, h.rb.mut m (by omega), set4_0 h.e0, set4_1 h.e1, set4_2 h.e2, set4_3 h.e3, fun o => (m.fz _).trans (h.ef o), (((hr.below hlt).below hlt).below hlt).below hlt, Nat.le_trans h.sz m.size⟩
theorem TB.start {w : World} {H b : Nat} {vA vB : Value} {xs ss : List Int} (off : Int) (hs : ST w w H b G s) (hV : DV w H vA vB xs ss) :
    TB w (((w.alloc (.cells #[vA, vB, .int .i64 off] 25)).alloc (.cells #[.slice none 0 0, .slice none 0 0, .int .i64 0] 25)).alloc (.cells #[.int .i64 1, .slice none 0 0, .slice none 0 0, .int .i64 0] 29)) G s H b vA vB xs ss off 1 (.slice none 0 0) (.slice none 0 0) [] [] 0 := by
  have n1 := fun j => new_cell w #[vA, vB, .int .i64 off] 25 w.heap.size rfl j
  have y1 : Ext w (w.alloc (.cells #[vA, vB, .int .i64 off] 25)) := (Ext.refl _).alloc _ _
  have y2 : Ext (w.alloc (.cells #[vA, vB, .int .i64 off] 25)) ((w.alloc (.cells #[vA, vB, .int .i64 off] 25)).alloc (.cells #[.slice none 0 0, .slice none 0 0, .int .i64 0] 25)) := (Ext.refl _).alloc _ _
  have y3 : Ext ((w.alloc (.cells #[vA, vB, .int .i64 off] 25)).alloc (.cells #[.slice none 0 0, .slice none 0 0, .int .i64 0] 25)) (((w.alloc (.cells #[vA, vB, .int .i64 off] 25)).alloc (.cells #[.slice none 0 0, .slice none 0 0, .int .i64 0] 25)).alloc (.cells #[.int .i64 1, .slice none 0 0, .slice none 0 0, .int .i64 0] 29)) := (Ext.refl _).alloc _ _
  have n3 := fun j => new_cell ((w.alloc (.cells #[vA, vB, .int .i64 off] 25)).alloc (.cells #[.slice none 0 0, .slice none 0 0, .int .i64 0] 25)) #[.int .i64 1, .slice none 0 0, .slice none 0 0, .int .i64 0] 29 (w.heap.size + 1 + 1) (by simp) j
  exact ⟨((hs.alloc _ _).alloc _ _).alloc _ _, hV.bel ((y1.trans y2).trans y3).bl, y3.box (y2.box (n1 0)), y3.box (y2.box (n1 1)), y3.box (y2.box (n1 2)), (RB3.make _ _ (by simp)).bel y3.bl, n3 0, n3 1, n3 2, n3 3, fun o => y3.unfrozen (by simp) o, ⟨World.ownsRow_nil _ _ _ _, World.ownsRow_nil _ _ _ _, Or.inl rfl⟩, by simp⟩
theorem VSOw.dv3 {w W W' : World} {c : Int} {L S : List Int} {o : Int} {e : Ending} (h : VSOw W c L S o e W') (hz : w.heap.size + 3 ≤ W.heap.size) : ∃ (sa sb : Option Addr) (ca cb : Nat), e = .returned (.agg #[.int .i64 c, .slice sa L.length ca, .slice sb S.length cb, .int .i64 o]) ∧ DV W' (w.heap.size + 3) (.slice sa L.length ca) (.slice sb S.length cb) L S ∧ Bel W W' := h.dv hz
theorem dv_ne {W : World} {n : Nat} {vA vB : Value} {xs ss : List Int} (h : DV W n vA vB xs ss) {R : Nat} (hR : R < n) : vA.ownBlock ≠ some R ∧ vB.ownBlock ≠ some R :=
  ⟨fun e => by have := (h.a.lt R e).1; omega, fun e => by have := (h.c.lt R e).1; omega⟩
theorem TB.own {w W W' : World} {H b : Nat} {vA vB : Value} {xs ss : List Int} {off : Int} {row : Option Nat} (h : TB w W G s H b vA vB xs ss off 1 (.slice none 0 0) (.slice none 0 0) [] [] 0) (x : W.grownBy W' row) (hrow : ∀ j, row = some j → w.heap.size + 3 ≤ j)
    (h1 : ∀ g, vA.ownBlock = some g → g < w.heap.size) (h2 : ∀ g, vB.ownBlock = some g → g < w.heap.size) : TB w W' G s H b vA vB xs ss off 1 (.slice none 0 0) (.slice none 0 0) [] [] 0 := by
  have hn : ∀ B, B < w.heap.size + 3 → some B ≠ row := fun B hB e => by have := hrow B e.symm; omega
  have cc : ∀ {B o : Nat} {v : Value}, B < w.heap.size + 3 → W.cell? ⟨B, o, none⟩ = some v → W'.cell? ⟨B, o, none⟩ = some v := fun {B o v} hB hc => x.cell hc (hn B hB)
  have ff : ∀ {B : Nat}, B < w.heap.size + 3 → B < W.heap.size → ∀ o, W'.frozen? ⟨B, o, none⟩ = W.frozen? ⟨B, o, none⟩ := fun {B} hB hl o => World.frozen?_of_block (x.block B hl (hn B hB))
  have kp : ∀ {v : Value} {n : Nat} {l : List Value}, (∀ g, v.ownBlock = some g → g < w.heap.size) → W.ownsRow H 2 1 v n l → W'.ownsRow H 2 1 v n l := fun {v n l} hv ho => ho.kept x (by
    cases q : v.ownBlock with
    | none => exact Or.inl rfl
    | some g => exact Or.inr (hn g (by have := hv g q; omega)))
  exact ⟨h.st.own x (fun j hj => by have := hrow j hj; omega), ⟨kp h1 h.dv.a, kp h2 h.dv.c, h.dv.dj⟩, cc (by omega) h.c0, cc (by omega) h.c1, cc (by omega) h.c2, ⟨cc (by omega) h.rb.r0, cc (by omega) h.rb.r1, cc (by omega) h.rb.r2, fun o => (ff (by omega) (cell_lt h.rb.r0) o).trans (h.rb.rf o)⟩, cc (by omega) h.e0, cc (by omega) h.e1, cc (by omega) h.e2, cc (by omega) h.e3, fun o => (ff (by omega) (cell_lt h.e0) o).trans (h.ef o), ⟨World.ownsRow_nil _ _ _ _, World.ownsRow_nil _ _ _ _, Or.inl rfl⟩, Nat.le_trans h.sz x.size⟩

/-- Inside l2Turn, with a list that is built. -/
structure PB (w W : World) (G : Gh) (s : SS) (H b : Nat) (vA vB : Value) (xs ss : List Int) (off : Int) (vP : Value) (P : List Int) : Prop where
  tb : TB w W G s H b vA vB xs ss off 1 (.slice none 0 0) (.slice none 0 0) [] [] 0
  own : W.ownsRow (w.heap.size + 3) 2 1 vP P.length (P.map (Value.int .i64))
  l1 : ∀ g, vA.ownBlock = some g → g < w.heap.size
  l2 : ∀ g, vB.ownBlock = some g → g < w.heap.size
theorem PB.bel {w W W' : World} {H b : Nat} {vA vB vP : Value} {xs ss P : List Int} {off : Int} (h : PB w W G s H b vA vB xs ss off vP P) (x : Bel W W') : PB w W' G s H b vA vB xs ss off vP P := ⟨h.tb.bel x, own_keep h.own x, h.l1, h.l2⟩
theorem PB.next {w W : World} {H b : Nat} {vA vB vP : Value} {xs ss P : List Int} {off : Int} (h : PB w W G s H b vA vB xs ss off vP P) (m : Int) :
    Calls Try.prog 13 #[.pointer (some ⟨b, 0, none⟩), .int .i64 m] W fun e W' => ∃ (v : Int) (t : SS), nextL G.ds s m = (v, t) ∧ e = .returned (.int .i64 v) ∧ (0 ≤ v ∧ (v < m ∨ v = 0)) ∧ PB w W' G t H b vA vB xs ss off vP P :=
  (h.tb.st.next m).mono fun e W' hh => by
    obtain ⟨v, t, h0, h1, h2, h3, h4, h5⟩ := hh
    exact ⟨v, t, h0, h1, ⟨h2, h3⟩, h.tb.gb h4 (gb_mut h5), own_mut h.own h5 (fun e => by have := (h.own.lt b e).1; have := h.tb.st.bH; have := h.tb.st.hH; omega), h.l1, h.l2⟩
theorem PB.step {w wr w3 : World} {H b : Nat} {vA vB vP v3 : Value} {xs ss P : List Int} {off : Int} (h : PB w wr G s H b vA vB xs ss off vP P) (x : Int)
    (hown : w3.ownsRow (w.heap.size + 3) 2 1 v3 (P.length + 1) (P.map (Value.int .i64) ++ [.int .i64 x])) (hgrow : (wr.alloc (.cells #[.int .i64 x] 2)).grownBy w3 vP.ownBlock) : PB w w3 G s H b vA vB xs ss off v3 (P ++ [x]) := by
  refine ⟨(h.tb.bel ((Ext.refl wr).alloc #[.int .i64 x] 2).bl).own hgrow (fun j hj => (h.own.lt j hj).1) h.l1 h.l2, ?_, h.l1, h.l2⟩
  rw [List.length_append, List.map_append]
  exact hown
theorem PB.szP {w wr : World} {H b : Nat} {vA vB vP : Value} {xs ss P : List Int} {off : Int} (h : PB w wr G s H b vA vB xs ss off vP P) (x : Int) : w.heap.size + 3 ≤ (wr.alloc (.cells #[.int .i64 x] 2)).heap.size := by
  have h1 : wr.heap.size ≤ (wr.alloc (.cells #[.int .i64 x] 2)).heap.size := Below.size ((Ext.refl wr).alloc #[.int .i64 x] 2).bl
  exact Nat.le_trans h.tb.sz h1
theorem PB.start {w W : World} {H b : Nat} {vA vB : Value} {xs ss : List Int} {off : Int} (h : TB w W G s H b vA vB xs ss off 1 (.slice none 0 0) (.slice none 0 0) [] [] 0) (h1 : ∀ g, vA.ownBlock = some g → g < w.heap.size) (h2 : ∀ g, vB.ownBlock = some g → g < w.heap.size) :
    PB w (W.alloc (.cells #[] 2)) G s H b vA vB xs ss off (.slice (some ⟨W.heap.size, 0, none⟩) 0 0) [] :=
  ⟨h.bel ((Ext.refl W).alloc #[] 2).bl, World.ownsRow_made (base := w.heap.size + 3) (e := 2) (size := 1) W #[] 0 h.sz (by unfold maxLen; omega) rfl, h1, h2⟩
theorem PB.at {w W : World} {H b : Nat} {vA vB vP : Value} {xs ss P : List Int} {off : Int} (h : PB w W G s H b vA vB xs ss off vP P) (h0 : 0 < P.length) : ∃ g cap, vP = .slice (some ⟨g, 0, none⟩) P.length cap ∧ w.heap.size + 3 ≤ g ∧ Row W g 0 P ∧ (∀ o, W.frozen? ⟨g, o, none⟩ = false) ∧
    ∀ (j : Nat) (x : Int), PB w (W.setCell ⟨g, j, none⟩ (.int .i64 x)) G s H b vA vB xs ss off vP (P.set j x) := by
  obtain ⟨g, cap, rfl, hg⟩ := own_form3 h.own h0
  refine ⟨g, cap, rfl, hg, (row_of_own h.own).1, fun o => h.own.frozenAt o, fun j x => ?_⟩
  obtain ⟨s1, s2⟩ := h.own.stored j (.int .i64 x)
  refine ⟨h.tb.own s2 (fun k hk => by injection hk with hk; omega) h.l1 h.l2, ?_, h.l1, h.l2⟩
  rw [List.length_set, List.map_set]
  exact s1
end Go.Proofs.Ytanbgpmbccianaa
namespace Go.Proofs.Ytanbgpmbccianaa
open Go.ChangeShapes Go.RowKit
set_option linter.unusedSimpArgs false
set_option linter.unusedVariables false
variable {G : Gh} {s t : SS}

/-- A copied list has a block, also if it is empty. -/
def ListOs (w : World) (L : List Int) (e : Ending) (w' : World) : Prop :=
  ∃ (g cap : Nat), e = .returned (.slice (some ⟨g, 0, none⟩) L.length cap) ∧ w'.ownsRow w.heap.size 2 1 (.slice (some ⟨g, 0, none⟩) L.length cap) L.length (L.map (Value.int .i64)) ∧ Below w.heap.size w w'
def CRelS (w : World) (xs : List Int) (o i : Value) (wr : World) : Prop := ∃ k : Nat, i = .int .i64 k ∧ k ≤ xs.length ∧ (∃ g c, o = .slice (some ⟨g, 0, none⟩) k c) ∧ CL w wr (xs.take k) o
theorem own_blk {w : World} {base n : Nat} {v : Value} {L : List Value} (h : w.ownsRow base 2 1 v n L) (hn : ¬ v = .slice none 0 0) : ∃ g c, v = .slice (some ⟨g, 0, none⟩) n c := by
  rcases h.2 with ⟨h1, _⟩ | ⟨g, cap, cur, h1, _⟩
  · exact absurd h1 hn
  · exact ⟨g, cap, h1⟩

set_option maxRecDepth 100000 in
set_option maxHeartbeats 2000000 in
theorem copyList_some {w : World} {v : Value} {xs : List Int} (h : Ints w v xs) (hl : xs.length ≤ 5) :
    Calls Try.prog 25 #[v] w fun e w' => ListOs w xs e w' := by
  obtain ⟨i0, hi0, hz0, hz1, hz2⟩ := info_parts info2
  obtain ⟨sa, cap, rfl, hx⟩ := h
  have HX := hide hx
  clear hx
  have hone : 0 < 1 := Nat.one_pos
  have S0 := hide (CL.start w)
  go_enter Try.func25, Try.ntmps25
  go_wp2_with fail
  go_loopw [3, 4] (fun o i wr => CRelS w xs o i wr) (fun o i _ => xs.length - (intOf i).toNat)
  case atStart => exact ⟨0, rfl, by omega, ⟨_, _, rfl⟩, by simpa using S0.out⟩
  case round =>
    obtain ⟨k, rfl, hk, ⟨g, c, rfl⟩, hC⟩ := hrel
    have HC := hide hC
    clear hC
    by_cases hlt : k < xs.length
    · rcases HX.out with h0 | ⟨b, off, rfl, hrow⟩
      · rw [h0] at hlt; simp at hlt
      have q0 := Bel.box HC.out.bl (hrow k hlt)
      have hk0 : (0 : Int) ≤ (k : Int) := Int.natCast_nonneg _
      have hk1 : (k : Int) < (xs.length : Int) := by omega
      have hlT : (xs.take k).length = k := by rw [List.length_take]; omega
      have hsn := hide (take_snoc xs k hlt)
      generalize xs.getD k 0 = x at q0 hsn
      generalize hT : xs.take k = T at HC hlT hsn
      subst hlT
      go_wp2_with (at_builtin; (refine wpList_append_own _ rfl _ _ 23 rfl w.heap.size 2 i0 (.int .i64 0) 1 8 Try.underlying23 hi0 hz0 hz1 hz2 rfl (by decide) _ _ _ rfl (HC.out.own.alloc _) ⟨wr.heap.size, 0, none⟩ 1 1 [.int .i64 x] rfl rfl (cell_one_new _ _ _) (one_val _) (by unfold maxLen; omega) (by omega) (HC.out.szP x) ?_); intro v3 w3 hown3 hgrow3 hnil3)
      have St := HC.out.step x hown3 hgrow3
      have hnn : ¬ v3 = .slice none 0 0 := fun e => by have := (hnil3.1 e).2; omega
      obtain ⟨s3, c3, rfl⟩ := own_blk hown3 hnn
      have HSt := hide St
      clear St hown3 hgrow3 hnil3 hnn
      go_wp2
      go_roundw
      · exact ⟨T.length + 1, by go_num, by omega, ⟨_, _, rfl⟩, by rw [hsn.out]; exact HSt.out⟩
      · simp [intOf]; omega
    · have hkk : k = xs.length := by omega
      subst hkk
      have hC := HC.out
      rw [List.take_length] at hC
      have HC2 := hide hC
      clear hC HC
      go_wp2
      go_ret
      exact ⟨g, c, rfl, HC2.out.own, HC2.out.bl⟩

/-- The row of a literal with one number, to which others are appended. -/
theorem own_lit {W : World} {base : Nat} (x : Int) (hb : base ≤ W.heap.size) : (W.alloc (.cells #[.int .i64 x] 2)).ownsRow base 2 1 (.slice (some ⟨W.heap.size, 0, none⟩) 1 1) 1 [.int .i64 x] :=
  ⟨by simp, Or.inr ⟨W.heap.size, 1, #[.int .i64 x], rfl, hb, heap_alloc_new W _, Nat.le_refl _, by unfold maxLen; omega, by simp, by simp⟩⟩
theorem map_one {L : List Int} : ∀ u ∈ L.map (Value.int .i64), u.oneCell' = true := fun u hu => by
  obtain ⟨x, _, rfl⟩ := List.mem_map.1 hu
  rfl
theorem PB.row {w W : World} {H b g n cap : Nat} {vA vB : Value} {xs ss P : List Int} {off : Int} (h : PB w W G s H b vA vB xs ss off (.slice (some ⟨g, 0, none⟩) n cap) P) : P.length = n ∧ w.heap.size + 3 ≤ g ∧ Row W g 0 P ∧ (∀ o, W.frozen? ⟨g, o, none⟩ = false) ∧
    ∀ (j : Nat) (x : Int), PB w (W.setCell ⟨g, j, none⟩ (.int .i64 x)) G s H b vA vB xs ss off (.slice (some ⟨g, 0, none⟩) n cap) (P.set j x) := by
  have ho := h.own
  obtain ⟨s', c', e⟩ := own_form2 ho
  injection e with e1 e2 e3
  subst e2
  have hg := (ho.lt g rfl).1
  refine ⟨rfl, hg, (row_of_own ho).1, fun o => ho.frozenAt o, fun j x => ?_⟩
  obtain ⟨s1, s2⟩ := ho.stored j (.int .i64 x)
  refine ⟨h.tb.own s2 (fun k hk => by injection hk with hk; omega) h.l1 h.l2, ?_, h.l1, h.l2⟩
  rw [List.length_set, List.map_set]
  exact s1
theorem PB.lit {w W : World} {H b : Nat} {vA vB : Value} {xs ss : List Int} {off : Int} (h : TB w W G s H b vA vB xs ss off 1 (.slice none 0 0) (.slice none 0 0) [] [] 0) (h1 : ∀ g, vA.ownBlock = some g → g < w.heap.size) (h2 : ∀ g, vB.ownBlock = some g → g < w.heap.size) (x : Int) :
    PB w (W.alloc (.cells #[.int .i64 x] 2)) G s H b vA vB xs ss off (.slice (some ⟨W.heap.size, 0, none⟩) 1 1) [x] :=
  ⟨h.bel ((Ext.refl W).alloc #[.int .i64 x] 2).bl, own_lit x h.sz, h1, h2⟩
theorem PB.lit2 {w W : World} {H b : Nat} {vA vB : Value} {xs ss : List Int} {off : Int} (h : TB w W G s H b vA vB xs ss off 1 (.slice none 0 0) (.slice none 0 0) [] [] 0) (h1 : ∀ g, vA.ownBlock = some g → g < w.heap.size) (h2 : ∀ g, vB.ownBlock = some g → g < w.heap.size) (x y : Int) :
    PB w (W.alloc (.cells #[.int .i64 x, .int .i64 y] 2)) G s H b vA vB xs ss off (.slice (some ⟨W.heap.size, 0, none⟩) 2 2) [x, y] :=
  ⟨h.bel ((Ext.refl W).alloc #[.int .i64 x, .int .i64 y] 2).bl, ⟨by simp, Or.inr ⟨W.heap.size, 2, #[.int .i64 x, .int .i64 y], rfl, h.sz, heap_alloc_new W _, Nat.le_refl _, by unfold maxLen; omega, by simp, by simp⟩⟩, h1, h2⟩
theorem PB.join {w W w3 : World} {H b gs cs : Nat} {vA vB v3 : Value} {xs ss P : List Int} {off x : Int} (h : PB w W G s H b vA vB xs ss off (.slice (some ⟨gs, 0, none⟩) P.length cs) P)
    (hown : w3.ownsRow (w.heap.size + 3) 2 1 v3 (1 + P.length) ([.int .i64 x] ++ P.map (Value.int .i64))) (hgrow : (W.alloc (.cells #[.int .i64 x] 2)).grownBy w3 (some W.heap.size)) : PB w w3 G s H b vA vB xs ss off v3 (x :: P) := by
  refine ⟨(h.tb.bel ((Ext.refl W).alloc #[.int .i64 x] 2).bl).own hgrow (fun j hj => by injection hj with hj; have := h.tb.sz; omega) h.l1 h.l2, ?_, h.l1, h.l2⟩
  have e : 1 + P.length = (x :: P).length := by simp; omega
  rw [← e]
  exact hown
theorem PB.news {w W : World} {H b gs cs : Nat} {vA vB : Value} {xs ss P : List Int} {off : Int} (h : PB w W G s H b vA vB xs ss off (.slice (some ⟨gs, 0, none⟩) P.length cs) P) (x : Int) : ∀ j u, (P.map (Value.int .i64))[j]? = some u → (W.alloc (.cells #[.int .i64 x] 2)).cell? ((⟨gs, 0, none⟩ : Addr).add j) = some u :=
  fun j u hu => (h.own.alloc _).cells (g := gs) rfl j u hu
end Go.Proofs.Ytanbgpmbccianaa
