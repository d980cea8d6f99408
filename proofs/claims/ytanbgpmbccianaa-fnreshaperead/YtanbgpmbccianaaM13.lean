import Derived.Test.YtanbgpmbccianaaDDr
import Derived.Test.YtanbgpmbccianaaM11
import Derived.Test.YtanbgpmbccianaaROpn
import Derived.Maps.AppendAt
import Derived.Deep.RegionHeld3
import Derived.Deep.AppendLies
namespace Go.Proofs.Ytanbgpmbccianaa
open Go.ChangeShapes Go.RowKit FL
set_option linter.unusedSimpArgs false
set_option linter.unusedVariables false
theorem openL_zero (ss : List St) (st : Int) (xs sv : List Int) (off : Int) : (openL ss st xs sv off == 0) = (vHeap ss && (dcGoodA ss st xs sv off)) := by
  unfold openL
  cases h : vHeap ss with
  | false => simp
  | true =>
    by_cases g : GoodA ss st xs sv off
    · simp [if_pos g, dcGoodA_t g]
    · simp [if_neg g, dcGoodA_f g]

end Go.Proofs.Ytanbgpmbccianaa
namespace Go.Proofs.Ytanbgpmbccianaa
open Go.ChangeShapes Go.RowKit
set_option linter.unusedSimpArgs false
set_option linter.unusedVariables false

end Go.Proofs.Ytanbgpmbccianaa
namespace Go.Proofs.Ytanbgpmbccianaa
open Go.ChangeShapes Go.RowKit
set_option linter.unusedSimpArgs false
set_option linter.unusedVariables false

end Go.Proofs.Ytanbgpmbccianaa
namespace Go.Proofs.Ytanbgpmbccianaa
open Go.ChangeShapes Go.RowKit
set_option linter.unusedSimpArgs false
set_option linter.unusedVariables false

end Go.Proofs.Ytanbgpmbccianaa
namespace Go.Proofs.Ytanbgpmbccianaa
open Go.ChangeShapes Go.RowKit
set_option linter.unusedSimpArgs false
set_option linter.unusedVariables false

def SzAOk (left : Int) (n m : Nat) (e : Ending) : Prop := ∃ r : Int, e = .returned (.int .i64 r) ∧ (r < 0 ∨ (0 ≤ r ∧ n ≤ 1048576 ∧ m ≤ 1048576))
end Go.Proofs.Ytanbgpmbccianaa
namespace Go.Proofs.Ytanbgpmbccianaa
open Go.ChangeShapes Go.RowKit FL
set_option linter.unusedSimpArgs false
set_option linter.unusedVariables false
theorem info59 : (Try.prog.info? 39).map (fun i => (i.zero, i.size, i.bytes)) = some (some (.agg #[.int .i64 0, .float .f64 0, .float .f64 0]), 3, 24) := by kernel_rfl
theorem info54 : (Try.prog.info? 33).map (fun i => (i.zero, i.size, i.bytes)) = some (some (.agg #[.int .i64 0, .slice none 0 0]), 2, 32) := by kernel_rfl

end Go.Proofs.Ytanbgpmbccianaa
namespace Go.Proofs.Ytanbgpmbccianaa
open Go.ChangeShapes Go.RowKit Go.Shelf
set_option linter.unusedSimpArgs false
set_option linter.unusedVariables false

attribute [local go_sem] Oper.semAt_some

theorem KC.grown {b g : Nat} {A B : World} (hg : A.grownBy B (some g)) (h : g < b) : KC b A B :=
  ⟨hg.size, fun k o hk ho _ => (hg.block k (Array.getElem?_eq_some_iff.1 ho).1 (fun e => by cases e; omega)).trans ho⟩
theorem offs_cap {xs ss : List Int} {off : Int} (hv : ValidV xs ss off) : (offsL xs ss off).length ≤ (prod xs).toNat := by
  unfold offsL
  split
  · simp
  · rw [places_len xs ss off hv.2.1.symm]
    have h1 := prod_plen (fun m hm => (good_nonneg hv.1 m hm).1)
    omega

end Go.Proofs.Ytanbgpmbccianaa
namespace Go.Proofs.Ytanbgpmbccianaa
open Go.ChangeShapes Go.RowKit FL
set_option linter.unusedSimpArgs false
set_option linter.unusedVariables false

def c3v (c : C3) : List Value := [.int .i64 c.1, .float .f64 c.2.1, .float .f64 c.2.2]
def flat : List C3 → List Value
  | [] => []
  | c :: cs => c3v c ++ flat cs
theorem flatC_len (cs : List C3) : (flat cs).length = cs.length * 3 := by
  induction cs with
  | nil => rfl
  | cons c cs ih => rw [flat, List.length_append, ih, List.length_cons]; simp [c3v]; omega
theorem flat_app (cs ds : List C3) : flat (cs ++ ds) = flat cs ++ flat ds := by
  induction cs with
  | nil => rfl
  | cons c cs ih => rw [List.cons_append, flat, flat, ih, List.append_assoc]
theorem flat_get (cs : List C3) : ∀ j, j < cs.length → (flat cs)[j * 3]? = some (.int .i64 (cs.getD j k0).1) ∧ (flat cs)[j * 3 + 1]? = some (.float .f64 (cs.getD j k0).2.1) ∧ (flat cs)[j * 3 + 2]? = some (.float .f64 (cs.getD j k0).2.2) := by
  induction cs with
  | nil => intro j hj; simp at hj
  | cons c cs ih =>
    intro j hj
    match j with
    | 0 => exact ⟨rfl, rfl, rfl⟩
    | j + 1 =>
      have h := ih j (by simpa using hj)
      have e : ∀ i, (flat (c :: cs))[(j + 1) * 3 + i]? = (flat cs)[j * 3 + i]? := fun i => by
        rw [flat, List.getElem?_append_right (by simp [c3v]; omega)]
        congr 1
        simp [c3v]; omega
      have e0 := e 0
      rw [Nat.add_zero, Nat.add_zero] at e0
      rw [e0, e 1, e 2, List.getD_cons_succ]
      exact h
/-- The rows that a call made for its answer. -/
def OwnCl (w' : World) (lo : Nat) (sa : Option Addr) (cs : List C3) : Prop := cs = [] ∨ ∃ g, sa = some ⟨g, 0, none⟩ ∧ lo ≤ g ∧ CRow w' g 0 cs ∧ ∀ o, w'.frozen? ⟨g, o, none⟩ = false
def CellsOk (w : World) (cs : List C3) (e : Ending) (w' : World) : Prop := ∃ (sa : Option Addr) (cap : Nat), e = .returned (.slice sa cs.length cap) ∧ OwnCl w' w.heap.size sa cs ∧ Below w.heap.size w w'
theorem crow_of_own {w : World} {base g n cap : Nat} {cs : List C3} (h : w.ownsRow base 39 3 (.slice (some ⟨g, 0, none⟩) n cap) n (flat cs)) (hn : n = cs.length) : CRow w g 0 cs := fun j hj => by
  obtain ⟨a, b, c⟩ := flat_get cs j hj
  rw [Nat.zero_add]
  exact ⟨(h.cellAt _ (by omega)).trans a, (h.cellAt _ (by omega)).trans b, (h.cellAt _ (by omega)).trans c⟩
theorem own_cells {w3 : World} {lo base n : Nat} {v : Value} {cs : List C3} (hb : lo ≤ base) (h : w3.ownsRow base 39 3 v n (flat cs)) : ∃ sa cap, v = .slice sa cs.length cap ∧ OwnCl w3 lo sa cs := by
  have hl : n = cs.length := by have := h.1; rw [flatC_len] at this; omega
  by_cases h0 : cs = []
  · subst h0
    rcases h.2 with ⟨h1, h2⟩ | ⟨g, cap, cur, h1, h2, _⟩
    · exact ⟨none, 0, by first | exact h1 | (rw [h1]; rfl), Or.inl rfl⟩
    · exact ⟨_, _, by rw [h1, hl], Or.inl rfl⟩
  · have hp : 0 < n := by rw [hl]; exact List.length_pos_iff.2 h0
    rcases h.2 with ⟨h1, h2⟩ | ⟨g, cap, cur, h1, h2, _⟩
    · omega
    · subst h1
      exact ⟨_, _, by rw [hl], Or.inr ⟨g, rfl, by omega, crow_of_own h hl, fun o => h.frozenAt o⟩⟩
theorem cells_nil {w w' : World} {cs : List C3} (h : cs = []) (sa : Option Addr) (cap : Nat) (hB : Below w.heap.size w w') : CellsOk w cs (.returned (.slice sa 0 cap)) w' := by
  subst h
  exact ⟨sa, cap, rfl, Or.inl rfl, hB⟩
theorem CellsOk.from {w w1 w' : World} {cs : List C3} {e : Ending} (hB : Below w.heap.size w w1) (h : CellsOk w1 cs e w') : CellsOk w cs e w' := by
  obtain ⟨sa, cap, h1, h2, h3⟩ := h
  refine ⟨sa, cap, h1, ?_, Bel.tr hB h3⟩
  rcases h2 with h2 | ⟨g, h4, h5, h6⟩
  · exact Or.inl h2
  · exact Or.inr ⟨g, h4, Nat.le_trans hB.size h5, h6⟩
/-- What Read answers. -/
def readL (ss : List St) (st : Int) (xs sv : List Int) (off : Int) : List C3 := (offsL xs sv off).map fun p => (ss.getD st.toNat s0).2.getD p.toNat k0
def readA (ss : List St) (st : Int) (xs sv : List Int) (off : Int) : List C3 := if vHeap ss = true ∧ GoodA ss st xs sv off then readL ss st xs sv off else []
theorem grown_more {w w1 w2 : World} {g : Nat} {row : Option Nat} (h : w.grownBy w1 (some g)) (k : w1.grownBy w2 row) (hr : row = some g ∨ ∃ j, row = some j ∧ w.heap.size ≤ j) : w.grownBy w2 (some g) :=
  ⟨k.os.trans h.os, k.tape.trans h.tape, k.output.trans h.output, Nat.le_trans h.size k.size, fun j hj hn => (k.block j (Nat.lt_of_lt_of_le hj h.size) (by
    rcases hr with rfl | ⟨i, rfl, hi⟩
    · exact hn
    · intro e; cases e; omega)).trans (h.block j hj hn)⟩
theorem grown_box {w w1 : World} {g : Nat} (h : w.grownBy w1 (some g)) {b o : Nat} {v : Value} (hb : b ≠ g) (hc : w.cell? ⟨b, o, none⟩ = some v) : w1.cell? ⟨b, o, none⟩ = some v := by
  rw [← hc]
  exact World.cell?_of_block (w := w) (a := ⟨b, o, none⟩) (h.block b (cell_lt hc) (fun e => by cases e; exact hb rfl))
theorem grown_alloc {w w1 : World} {g : Nat} (h : w.grownBy w1 (some g)) (o : Obj) : w.grownBy (w1.alloc o) (some g) :=
  ⟨h.os, h.tape, h.output, by have := h.size; simp; omega, fun j hj hn => by
    have hs := h.size
    rw [← h.block j hj hn]
    exact ((Below.refl w1.heap.size w1).alloc (Nat.le_refl _) o).block j (by omega)⟩
theorem c3v_one (c : C3) : ∀ u ∈ c3v c, u.oneCell' = true := fun u hu => by
  simp only [c3v, List.mem_cons, List.not_mem_nil, or_false] at hu
  rcases hu with rfl | rfl | rfl <;> rfl
theorem flat_one (cs : List C3) (c : C3) : flat (cs ++ [c]) = flat cs ++ c3v c := by rw [flat_app]; simp [flat]
end Go.Proofs.Ytanbgpmbccianaa
namespace Go.Proofs.Ytanbgpmbccianaa
open Go.ChangeShapes Go.RowKit Go.Shelf
set_option linter.unusedSimpArgs false
set_option linter.unusedVariables false

/-- A place of a store of N cells. -/
abbrev PlN (N : Int) := { x : Int // 0 ≤ x ∧ x < N }
def pnv {N : Int} (ps : List (PlN N)) : List Int := ps.map (·.1)
theorem pnv_append {N : Int} (p q : List (PlN N)) : pnv (p ++ q) = pnv p ++ pnv q := List.map_append ..
theorem pnv_len {N : Int} (p : List (PlN N)) : (pnv p).length = p.length := List.length_map ..
theorem places_stopsN (N : Int) (n Bf n₀ : Nat) (xs ss : List Int) (off : Int) (h4 : xs.length ≤ 4) (hl : ss.length = xs.length) (hr : InR xs xs.length) (hp : prod xs ≤ 4096) (hss : InS ss ss.length) (ho : 0 ≤ off ∧ off ≤ 4096) (hPr : ∀ x ∈ offsL xs ss off, 0 ≤ x ∧ x < N) (w : World) (hn : n₀ ≤ w.heap.size)
    (hc : ∀ j, j < 10 → w.cell? ⟨Bf, j, none⟩ = (vw xs ss off)[j]?) (hBf : Bf < w.heap.size) :
    SeqStopsK Fence.wide n Try.prog 37 #[.pointer (some ⟨Bf, 0, none⟩)] (fun x : PlN N => #[Value.int .i64 x.1]) (KC n₀) (fun ys => pnv ys = offsL xs ss off) (fun pre => pnv pre <+: offsL xs ss off) (offsL xs ss off).length w := fun l J Jx W hW hJ hJx hY h0 => by
  have hbW : w.heap.size ≤ W.heap.size := hW.size
  have hc2 : ∀ j, j < 10 → W.cell? ⟨Bf, j, none⟩ = (vw xs ss off)[j]? := fun j hj => (hW.cell (p := ⟨Bf, j, none⟩) hBf).trans (hc j hj)
  have key := places1_in n l Bf W.heap.size xs ss off h4 hl hr hp hss ho (fun x => 0 ≤ x ∧ x < N) hPr (fun pre W => ∃ ps, pnv ps = pre ∧ J ps W) (fun pre W => ∃ ps, pnv ps = pre ∧ Jx ps W)
    (fun pre A B row ⟨ps, e, h⟩ hg hrow => ⟨ps, e, hJ ps A B row h hg hrow⟩)
    (fun m pre x A hx ⟨ps, e, h⟩ hlen => by
      subst e
      have hy := yield_any m (hY ps ⟨x, hx⟩ A h (by rw [← pnv_len]; exact hlen))
      refine hy.mono ?_
      rintro e W' (⟨rfl, h1, h2⟩ | ⟨rfl, h1⟩)
      · exact .inl ⟨rfl, ⟨_, pnv_append _ _, h1⟩, ⟨h2.size, fun k o hb h hc => h2.keep k o (by omega) h hc⟩⟩
      · exact .inr ⟨rfl, ⟨_, pnv_append _ _, h1⟩⟩)
    W (Nat.le_refl _) hc2 ⟨[], rfl, h0⟩
  refine key.mono ?_
  rintro e W' ⟨hv, ⟨ys, rfl, ps, e1, h⟩ | ⟨pre, hpre, ps, e1, h⟩⟩
  · exact ⟨hv, .inl ⟨ps, e1, h⟩⟩
  · exact ⟨hv, .inr ⟨ps, by show pnv ps <+: _; rw [e1]; exact hpre, h⟩⟩
theorem placesKN (N : Int) (n Bf : Nat) (xs ss : List Int) (off : Int) (h4 : xs.length ≤ 4) (hl : ss.length = xs.length) (hr : InR xs xs.length) (hp : prod xs ≤ 4096) (hss : InS ss ss.length) (ho : 0 ≤ off ∧ off ≤ 4096) (hPr : ∀ x ∈ offsL xs ss off, 0 ≤ x ∧ x < N) (W : World) (hB : Bf = W.heap.size) :
    SeqStopsK Fence.wide n Try.prog 37 #[.pointer (some ⟨Bf, 0, none⟩)] (fun x : PlN N => #[Value.int .i64 x.1]) (KC (W.alloc (.cells (vw xs ss off) 58)).heap.size) (fun ys => pnv ys = offsL xs ss off) (fun pre => pnv pre <+: offsL xs ss off) (offsL xs ss off).length (W.alloc (.cells (vw xs ss off) 58)) := by
  subst hB
  exact places_stopsN N n _ _ xs ss off h4 hl hr hp hss ho hPr _ (Nat.le_refl _) (fun j _ => new_cell W _ 58 W.heap.size rfl j) (by simp)
end Go.Proofs.Ytanbgpmbccianaa
namespace Go.Proofs.Ytanbgpmbccianaa
open Go.ChangeShapes Go.RowKit Go.Shelf
set_option linter.unusedSimpArgs false
set_option linter.unusedVariables false

/-- A region that draws, in a round's frame: from the same in a plain frame. -/
theorem op_in {P : Program} {l n : Nat} {o : Oper} {a : Act} {w : World} {K : Act → World → Prop} {Q : Exit → Act → World → Prop} (hd : ∀ c, o.op ≠ .defer c) (h : o.wp P a w K Q) : o.wpIn (Fence.wide.inRound l) n P a w K Q := by
  refine ⟨fun _ _ => trivial, ?_⟩
  rw [Oper.semAt_eq _ _ _ hd]
  unfold Oper.wp at h
  generalize (execOp a.eval o).run P w = r at h
  cases r with
  | ok x w' =>
    cases x <;> simp only [Oper.upon, Oper.uponIn] at h ⊢ <;>
      first
        | exact h
        | exact ⟨fun e => by simp [Fence.wide] at e, CallsIn.inRound l (callsIn_wide.2 h)⟩
        | exact ⟨fun e => by simp [Fence.wide] at e, fun c cs _ => (by obtain ⟨v, w', r, s⟩ := h c cs; exact ⟨v, w', r, stepsIn_wide.2 s⟩)⟩
        | exact h.elim
  | halt x w' => cases x <;> simp only [Oper.upon, Oper.uponIn] at h ⊢ <;> first | exact h | exact h.elim
def noDefer (o : Oper) : Bool := match o.op with | .defer _ => false | _ => true
theorem any_in {P : Program} {md : Region.Mode} {l n : Nat} {ops : Array Oper} {Q : Exit → Act → World → Prop} (hn : ¬ LetsOut Q) (hd : ops.toList.all noDefer = true) : ∀ (fuel : Nat) (listed : Array Bool) (a : Act) (w : World), wpAny P md ops Q fuel listed a w → wpAnyIn (Fence.wide.inRound l) n P md ops Q fuel listed a w
  | 0, _, _, _, h => h
  | fuel + 1, listed, a, w, h => ⟨h.1, fun i hi => by
    have h2 := h.2 i hi
    unfold wpOp at h2
    unfold wpOpIn
    cases ho : ops[i]? with
    | none => rw [ho] at h2; exact any_in hn hd fuel _ _ _ h2
    | some o =>
      rw [ho] at h2
      have hdo : ∀ c, o.op ≠ .defer c := fun c e => by
        have hm : o ∈ ops.toList := by
          rw [Array.mem_toList_iff]
          exact Array.mem_of_getElem? ho
        have := List.all_eq_true.1 hd o hm
        unfold noDefer at this
        rw [e] at this
        cases this
      dsimp only at h2 ⊢
      by_cases hw : Region.wanted o (yielded ops a.tmps) = true
      · rw [if_pos hw] at h2 ⊢
        rcases h2 with h2 | ⟨_, h2⟩
        · exact Oper.wpIn_mono (fun a' w' h' => any_in hn hd fuel _ _ _ h') (op_in hdo h2)
        · exact absurd h2 hn
      · rw [if_neg hw] at h2 ⊢
        exact ⟨fun _ _ => trivial, any_in hn hd fuel _ _ _ h2⟩⟩
def NQ (Q : Exit → Act → World → Prop) : Exit → Act → World → Prop := fun e a w => e = .normal ∧ Q .normal a w
theorem nq_out (Q : Exit → Act → World → Prop) : ¬ LetsOut (NQ Q) := by
  rintro ⟨a, w, e, _⟩
  cases e
theorem region_in {P : Program} {id n l : Nat} {ops : Array Oper} {Q : Exit → Act → World → Prop} {S : World → Prop} {a : Act} {w : World} (hm : P.follows .mixedOrders = true) (hd : ops.toList.all noDefer = true)
    (h : wpAnyH P .any ops (NQ Q) S ops.size (Array.replicate ops.size false) a w.drew) : (Code.region id ops true).wpIn (Fence.wide.inRound l) n P Q a w :=
  wpIn_mono (wpIn_region_any hm (any_in (nq_out Q) hd _ _ _ _ (wpAny_of_held _ _ _ _ h))) (fun e a w h => by obtain ⟨rfl, h⟩ := h; exact h)
theorem step_append_fits {P : Program} {w : World} {ops : Array Oper} {o : Oper} {a : Act} {K : Act → World → Prop} {Q : Exit → Act → World → Prop} {E : Prop}
    (hg : o.guard = none) (s x : Operand) (t : TypeId) (hop : o.op = Op.call { callee := Callee.builtin Builtin.append, args := #[s, x], argTypes := #[t, t] })
    (base : Nat) (e : TypeId) (i : TypeInfo) (size : Nat) (h1 : P.underlying t = some (.slice e)) (h2 : P.info? e = some i) (h4 : i.size = size)
    (g k cap : Nat) (xs : List Value) (hs : a.eval s = .slice (some ⟨g, 0, none⟩) k cap) (hown : w.ownsRow base e size (.slice (some ⟨g, 0, none⟩) k cap) k xs) (ad : Addr) (m c : Nat) (news : List Value) (hx : a.eval x = .slice (some ad) m c) (hn : news.length = m * size)
    (hc : ∀ j u, news[j]? = some u → w.cell? (ad.add j) = some u) (h1c : ∀ u ∈ news, u.oneCell' = true) (b1 : k + m ≤ cap)
    (hK : ∀ w', w'.ownsRow base e size (.slice (some ⟨g, 0, none⟩) (k + m) cap) (k + m) (xs ++ news) → w.grownBy w' (some g) → K (a.put o.dst (.slice (some ⟨g, 0, none⟩) (k + m) cap)) w') :
    if Region.wanted o (yielded ops a.tmps) = true then Oper.wp P o a w K Q else E := by
  have hw : Region.wanted o (yielded ops a.tmps) = true := by simp [Region.wanted, hg]
  rw [if_pos hw]
  obtain ⟨w', hrun, r1, r2⟩ := run_append_fits (P := P) w base t o.type e i size h1 h2 h4 g k cap xs hown ad m c news hn hc h1c b1
  unfold Oper.wp
  simp [execOp, hop, resolve, invoke, builtin, hs, hx, hrun, Result.andThen]
  exact hK _ r1 r2
end Go.Proofs.Ytanbgpmbccianaa
