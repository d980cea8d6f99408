import Derived.Test.YtfhcpicddegblaaGreatM11
import Derived.Test.YtfhcpicddegblaaGreatM6
import Derived.Test.YtfhcpicddegblaaGreatM12
import Derived.Test.YtfhcpicddegblaaGreatM5
import Derived.Test.YtfhcpicddegblaaGreatM7
import Derived.Laws.EntriesVeiled
set_option linter.unusedSimpArgs false
set_option linter.unusedVariables false
set_option maxRecDepth 100000
set_option maxHeartbeats 8000000
namespace Go.Proofs.YtfhcpicddegblaaGreat
open List renaming setIfInBounds_toArray → sT, set_cons_zero → sZ, set_cons_succ → sS
open Go.Value renaming int → O, slice → σ, pointer → π, agg → γ
open Go.IntKind renaming i64 → ι
open Go.Obj renaming cells → χ
open Go.Act renaming put → aP
section
open Go.ChangeShapes Go.RowKit FL
structure OfK (gf : Nat) (cb : Array Value) (bc K : Nat) (dt : Int) (out : (Nat → C3) → Nat → C3) (Fw : World → Prop) : Prop where
 call : ∀ W off f, Fw W → CF W bc off K f → (∀ o, W.frozen? ⟨bc, o, none⟩ = false) → (∀ i, i < K → OkC dt (f i)) →
  Calls Tryz.prog gf (#[σ (some ⟨bc, off, none⟩) K K] ++ cb) W fun e W' => ∃ sb so cp, e = .returned (σ (some ⟨sb, so, none⟩) K cp) ∧ CF W' sb so K (out f) ∧ (∃ f', CF W' bc off K f' ∧ ∀ i, i < K → OkC dt (f' i)) ∧ MRg bc off K W W'
structure B1 (w : World) (cB oB bc base off K : Nat) (dt : Int) (rv : Value) (Zl New : List C3) (w' : World) : Prop where
 ex : ∃ rv', w'.cell? ⟨cB, 0, none⟩ = some rv' ∧ w'.ownsRow base 66 3 rv' (Zl.length + K) (flat (Zl ++ New)) ∧ (∀ c, rv'.ownBlock = some c → c ≠ cB ∧ c ≠ bc ∧ c ≠ oB) ∧ (∀ c, rv'.ownBlock = some c → rv.ownBlock = some c ∨ w.heap.size ≤ c)
 lane : ∃ f', CF w' bc off K f' ∧ ∀ i, i < K → OkC dt (f' i)
 rest : ∀ o x, (o < off ∨ off + K * 3 ≤ o) → w.cell? ⟨bc, o, none⟩ = some x → w'.cell? ⟨bc, o, none⟩ = some x
 fb : ∀ o, w'.frozen? ⟨bc, o, none⟩ = w.frozen? ⟨bc, o, none⟩
 fc : ∀ o, w'.frozen? ⟨cB, o, none⟩ = w.frozen? ⟨cB, o, none⟩
 size : w.heap.size ≤ w'.heap.size
 keep : ∀ c, c < w.heap.size → c ≠ cB → c ≠ bc → rv.ownBlock ≠ some c → w'.heap[c]? = w.heap[c]?
 bl : ∀ lo, lo ≤ cB → lo ≤ base → lo ≤ bc → Below lo w w'
theorem zz24 {W : World} {b off K : Nat} {f : Nat → C3} (h : CF W b off K f) : ∀ j u, (flat ((List.range K).map f))[j]? = some u → W.cell? ((⟨b, off, none⟩ : Addr).add j) = some u := by
 intro j u hj
 have hr : CRow W b off ((List.range K).map f) := fun i hi => by
  have hi : i < K := by simpa using hi
  have e : ((List.range K).map f).getD i k0 = f i := by simp [List.getD_eq_getElem?_getD, hi]
  rw [e]
  exact h i hi
 rw [Addr.add_lit]
 exact zf12 hr j u hj
theorem zu11 : ∀ cs : List C3, ∀ u ∈ flat cs, u.oneCell' = true
 | [], u, h => by cases h
 | c :: cs, u, h => by
  have h : u ∈ Value.int .i64 c.1 :: .float .f64 c.2.1 :: .float .f64 c.2.2 :: flat cs := h
  simp only [List.mem_cons] at h
  rcases h with rfl | rfl | rfl | h
  ·rfl
  ·rfl
  ·rfl
  ·exact zu11 cs u h
theorem MRg.rest {b off n : Nat} {w w' : World} (h : MRg b off n w w') {c o : Nat} {x : Value} (hc : c ≠ b) (hx : w.cell? ⟨c, o, none⟩ = some x) : w'.cell? ⟨c, o, none⟩ = some x := h.m.box hc hx
theorem zp23 {w w' : World} {b base e size n : Nat} {v : Value} {xs : List Value} (h : w.ownsRow base e size v n xs) (m : Mut b w w') (hne : v.ownBlock ≠ some b) : w'.ownsRow base e size v n xs := by
 refine ⟨h.1, ?_⟩
 rcases h.2 with h2 | ⟨g, cap, cur, rfl, q1, q2, q3⟩
 ·exact Or.inl h2
 ·exact Or.inr ⟨g, cap, cur, rfl, q1, (m.block g (Array.getElem?_eq_some_iff.1 q2).1 (fun e => hne (congrArg some e))).trans q2, q3⟩
theorem zb17 {w : World} {cB oB bc base off K gf : Nat} {cb : Array Value} {dt : Int} {out : (Nat → C3) → Nat → C3} {Fw : World → Prop} {rv : Value} {Zl : List C3} {f : Nat → C3} (eg : ∀ args w, (callFunc gf args).run Tryz.prog w = .ok (.enter gf args) w)
  (hof : OfK gf cb bc K dt out Fw) (hFw : Fw w.drew) (hf : CF w bc off K f) (hfz : ∀ o, w.frozen? ⟨bc, o, none⟩ = false) (hok : ∀ i, i < K → OkC dt (f i)) (hK : 0 < K) (hK4 : K ≤ 4096) (hbox : w.cell? ⟨cB, 0, none⟩ = some rv) (hbf : w.frozen? ⟨cB, 0, none⟩ = false) (hobx : w.cell? ⟨oB, 0, none⟩ = some (.func (.func gf) #[] cb))
  (hown : w.ownsRow base 66 3 rv Zl.length (flat Zl)) (hz4 : Zl.length ≤ 4096) (hb : base ≤ w.heap.size) (hne : ∀ c, rv.ownBlock = some c → c ≠ cB ∧ c ≠ bc ∧ c ≠ oB) (hcb : cB ≠ bc) (hob : oB ≠ bc) :
  Calls Tryz.prog 99 #[σ (some ⟨bc, off, none⟩) K K, π (some ⟨cB, 0, none⟩), π (some ⟨oB, 0, none⟩)] w fun e w' => e = .returned (.tuple #[]) ∧ B1 w cB oB bc base off K dt rv Zl ((List.range K).map (out f)) w' := by
 obtain ⟨i6, hi6, hx0, hx1, hx2⟩ := info_parts zx4
 have hbl := zj hbox
 have hbcl := zj (hf 0 hK).1
 have HOF := hide (hof.call w.drew off f hFw (fun j hj => hf j hj) (fun o => hfz o) hok)
 have SA : Hid ((fun w' : World => w'.cell? ⟨cB, 0, none⟩ = some rv ∧ w'.cell? ⟨oB, 0, none⟩ = some (.func (.func gf) #[] cb)) w.drew) := ⟨hbox, hobx⟩
 have HO := hide hown
 have HNE := hide hne
 have HBX := hide hbox
 have HOX := hide hobx
 clear hof hFw hf hok hown hne hbox hobx
 go_enter Tryz.func99, Tryz.ntmps99
 go_wp2_with fail
 refine zs2 (S := (fun w' : World => w'.cell? ⟨cB, 0, none⟩ = some rv ∧ w'.cell? ⟨oB, 0, none⟩ = some (.func (.func gf) #[] cb))) (late := [5]) (by kernel_rfl) ?_
 refine zl27 0 4 (rv) rfl (.inl ⟨by kernel_rfl, ?_⟩) SA.out ?_
 ·rintro w' ⟨z0, z1⟩
  go_simp
 simp only [aP, sT, sZ, sS]
 refine zl27 1 5 (.func (.func gf) #[] cb) rfl (.inl ⟨by kernel_rfl, ?_⟩) SA.out ?_
 ·rintro w' ⟨z0, z1⟩
  go_simp
 simp only [aP, sT, sZ, sS]
 refine zl27 2 6 (σ (some ⟨bc, off, none⟩) K K) rfl (.inl ⟨by kernel_rfl, ?_⟩) SA.out ?_
 ·rintro w' ⟨z0, z1⟩
  go_simp
 simp only [aP, sT, sZ, sS]
 refine ze (i := 3) (by kernel_rfl) rfl (fun K' hK' => ?_)
 go_simp
 refine HOF.out.mono ?_
 rintro e W2 ⟨sb, so, cp, rfl, hout, hlane, hM⟩
 have SB : Hid ((fun w' : World => w'.cell? ⟨cB, 0, none⟩ = some rv ∧ w'.cell? ⟨oB, 0, none⟩ = some (.func (.func gf) #[] cb)) W2) := ⟨hM.rest hcb SA.out.1, hM.rest hob SA.out.2⟩
 refine hK'.out _ _ (fun _ => SB.out) ?_
 clear hK' K'
 try simp only [aP, sT, sZ, sS]
 have hs2 : w.heap.size ≤ W2.heap.size := hM.m.size
 have HO2 := hide (zp23 (show w.drew.ownsRow base 66 3 rv Zl.length (flat Zl) from HO.out) hM.m (fun e => (HNE.out bc e).2.1 rfl))
 have HOUT := hide (zz24 hout)
 have HLA := hide hlane
 have HM := hide hM
 clear hout hlane hM HOF SA
 refine ze (i := 4) (by kernel_rfl) rfl (fun K' hK' => ?_)
 refine step_append_lies _ (by rfl) (.tmp 4) (.tmp 7) 61 (by rfl) base 66 i6 (γ #[O ι 0, .float .f64 0, .float .f64 0]) 3 24 Tryz.underlying61 hi6 hx0 hx1 hx2 rfl (by decide) rv Zl.length (flat Zl) (by rfl) HO2.out ⟨sb, so, none⟩ K cp (flat ((List.range K).map (out f))) (by rfl) (by rw [za5]; simp) HOUT.out (zu11 _) hK (by unfold maxLen; omega) (by omega) (by omega) W2.heap.size rfl ?_
 intro g5 cap5 w5 hown5 hgrow5 hat5 hlt5
 have hblk : ∀ c, c < W2.heap.size → rv.ownBlock ≠ some c → w5.heap[c]? = W2.heap[c]? := fun c hc hn => hgrow5.block c hc (fun e => hn e.symm)
 have hc2 : cB < W2.heap.size := by omega
 have hcn : rv.ownBlock ≠ some cB := fun e => (HNE.out cB e).1 rfl
 have hbn : rv.ownBlock ≠ some bc := fun e => (HNE.out bc e).2.1 rfl
 have c5 : w5.cell? ⟨cB, 0, none⟩ = some rv := (World.cell?_of_block (w := W2) (a := ⟨cB, 0, none⟩) (hblk cB hc2 hcn)).trans SB.out.1
 have o5 : w5.cell? ⟨oB, 0, none⟩ = some (.func (.func gf) #[] cb) := by
  exact (World.cell?_of_block (w := W2) (a := ⟨oB, 0, none⟩) (hblk oB (zj SB.out.2) (fun e => (HNE.out oB e).2.2 rfl))).trans SB.out.2
 refine hK'.out _ _ (fun _ => ⟨c5, o5⟩) ?_
 clear hK' K'
 try simp only [aP, sT, sZ, sS]
 have f5 : ∀ o, w5.frozen? ⟨cB, o, none⟩ = w.frozen? ⟨cB, o, none⟩ := fun o => (World.frozen?_of_block (w := W2) (a := ⟨cB, o, none⟩) (hblk cB hc2 hcn)).trans (HM.out.m.fz _)
 have f50 := (f5 0).trans hbf
 have hs5 := hgrow5.size
 have HB : Hid (B1 w cB oB bc base off K dt rv Zl ((List.range K).map (out f)) (w5.setCell ⟨cB, 0, none⟩ (σ (some ⟨g5, 0, none⟩) (Zl.length + K) cap5))) := by
  have hb6 : ∀ c, c ≠ cB → (w5.setCell ⟨cB, 0, none⟩ (σ (some ⟨g5, 0, none⟩) (Zl.length + K) cap5)).heap[c]? = w5.heap[c]? := fun c hc => Below.heap_setCell _ _ _ _ hc
  have hbc5 : (w5.setCell ⟨cB, 0, none⟩ (σ (some ⟨g5, 0, none⟩) (Zl.length + K) cap5)).heap[bc]? = W2.heap[bc]? := (hb6 bc (Ne.symm hcb)).trans (hblk bc (by omega) hbn)
  have hg5 : g5 ≠ cB ∧ g5 ≠ bc ∧ g5 ≠ oB := by
   rcases hat5 with z | z
   ·exact HNE.out g5 z
   ·have := zj SB.out.2
    omega
  refine ⟨⟨_, World.cell?_setCell_same _ _ _ c5, ?_, fun c hc => ?_, fun c hc => ?_⟩, ?_, fun o x ho hx => ?_, fun o => ?_, fun o => by rw [World.frozen?_setCell]; exact f5 o, by simp [World.setCell]; omega, fun c hc h1 h2 h3 => ?_, fun lo h1 h2 h3 => ?_⟩
  ·rw [za10]
   exact zp18 hown5 (fun e => hg5.1 (by simp only [Value.ownBlock] at e; injection e))
  ·simp only [Value.ownBlock] at hc
   injection hc with hc
   rw [← hc]; exact hg5
  ·simp only [Value.ownBlock] at hc
   injection hc with hc
   rw [← hc]
   exact hat5.imp id (fun e => by omega)
  ·obtain ⟨f', q1, q2⟩ := HLA.out
   have hcc : ∀ {o x}, W2.cell? ⟨bc, o, none⟩ = some x → (w5.setCell ⟨cB, 0, none⟩ (σ (some ⟨g5, 0, none⟩) (Zl.length + K) cap5)).cell? ⟨bc, o, none⟩ = some x := fun {o x} hx => (World.cell?_of_block (w := W2) (a := ⟨bc, o, none⟩) hbc5).trans hx
   exact ⟨f', fun j hj => ⟨hcc (q1 j hj).1, hcc (q1 j hj).2.1, hcc (q1 j hj).2.2⟩, q2⟩
  ·exact (World.cell?_of_block (w := W2) (a := ⟨bc, o, none⟩) hbc5).trans (HM.out.c o x ho hx)
  ·exact (World.frozen?_of_block (w := W2) (a := ⟨bc, o, none⟩) hbc5).trans (HM.out.m.fz _)
  ·exact (hb6 c h1).trans ((hblk c (by omega) h3).trans (HM.out.m.block c hc h2))
  ·refine ⟨?_, ?_, ?_, by simp [World.setCell]; omega, fun c hc => ?_⟩
   ·exact hgrow5.os.trans HM.out.m.os
   ·exact hgrow5.tape.trans HM.out.m.tape
   ·exact hgrow5.output.trans HM.out.m.output
   ·exact (hb6 c (by omega)).trans ((hblk c (by omega) (fun e => by have := (HO.out.lt c e).1; omega)).trans (HM.out.m.block c (by show c < w.heap.size; omega) (by omega)))
 clear hown5 hgrow5 hat5 hlt5 f5 hblk
 refine ze (i := 5) (by kernel_rfl) rfl (fun K' hK' => ?_)
 go_simp
 refine hK'.out _ _ (fun h => absurd h (by decide)) ?_
 clear hK' K'
 try simp only [aP, sT, sZ, sS]
 refine zg (by kernel_rfl) ?_ _
 refine ⟨rfl, ?_⟩
 go_wp2_with fail
 refine bodyPost_end (results_none rfl _ _ _) rfl ⟨rfl, ?_⟩
 exact HB.out
end
section
open Go.ChangeShapes Go.RowKit Go.Shelf FL
def ZL (out : (Nat → C3) → Nat → C3) (RL : List C3) (K R : Nat) : List C3 := (List.range (R * K)).map fun j => out (fun m => RL.getD (j / K * K + m) k0) (j % K)
theorem zd5 (out : (Nat → C3) → Nat → C3) (RL : List C3) (K R : Nat) : (ZL out RL K R).length = R * K := by simp [ZL]
theorem za27 (out : (Nat → C3) → Nat → C3) (RL : List C3) {K R j : Nat} (hj : j < R * K) : (ZL out RL K R).getD j k0 = out (fun m => RL.getD (j / K * K + m) k0) (j % K) := by
 unfold ZL
 rw [List.getD_eq_getElem?_getD, List.getElem?_map, List.getElem?_range hj]
 rfl
theorem zo25 (out : (Nat → C3) → Nat → C3) (RL : List C3) {K R p : Nat} (hK : 0 < K) (hp : p < R) : (ZL out RL K R).take ((p + 1) * K) = (ZL out RL K R).take (p * K) ++ (List.range K).map (out fun m => RL.getD (p * K + m) k0) := by
 have hle : (p + 1) * K ≤ R * K := Nat.mul_le_mul_right K hp
 rw [Nat.add_mul, Nat.one_mul] at hle ⊢
 apply zo15
 ·rw [List.length_append, List.length_take, List.length_take, zd5, List.length_map, List.length_range]
  omega
 ·intro i hi
  rw [List.length_take, zd5] at hi
  rw [List.getD_eq_getElem?_getD, List.getElem?_take_of_lt (by omega), ← List.getD_eq_getElem?_getD, List.getD_eq_getElem?_getD (l := _ ++ _)]
  rcases Nat.lt_or_ge i (p * K) with z | z
  ·rw [List.getElem?_append_left (by rw [List.length_take, zd5]; omega), List.getElem?_take_of_lt z, ← List.getD_eq_getElem?_getD]
  ·have hl : ((ZL out RL K R).take (p * K)).length = p * K := by rw [List.length_take, zd5]; omega
   rw [List.getElem?_append_right (by rw [hl]; exact z), hl, List.getElem?_map, List.getElem?_range (by omega), za27 out RL (by omega)]
   obtain ⟨d, rfl⟩ : ∃ d, i = p * K + d := ⟨i - p * K, by omega⟩
   have hd : d < K := by omega
   have hd1 : (p * K + d) / K = p := by rw [Nat.mul_comm, Nat.mul_add_div hK, Nat.div_eq_of_lt hd, Nat.add_zero]
   have hd2 : (p * K + d) % K = d := by rw [Nat.mul_comm, Nat.mul_add_mod, Nat.mod_eq_of_lt hd]
   rw [hd1, hd2, Nat.add_sub_cancel_left]
   rfl
structure EI (WV : World) (cB oB bc gB base K R : Nat) (dt : Int) (out : (Nat → C3) → Nat → C3) (RL : List C3) (L : List Nat) (W : World) : Prop where
 ex : ∃ rv Zl f, W.cell? ⟨cB, 0, none⟩ = some rv ∧ W.ownsRow base 66 3 rv Zl.length (flat Zl) ∧ Zl.length = L.length * K ∧ (∀ c, rv.ownBlock = some c → c ≠ cB ∧ c ≠ bc ∧ c ≠ oB) ∧ (∀ c, rv.ownBlock = some c → c = gB ∨ WV.heap.size ≤ c) ∧ CF W bc 0 (R * K) f ∧ (∀ j, j < R * K → OkC dt (f j)) ∧
  (L = List.range L.length → (∀ j, L.length * K ≤ j → j < R * K → f j = RL.getD j k0) ∧ Zl = (ZL out RL K R).take (L.length * K))
 fzc : W.frozen? ⟨cB, 0, none⟩ = false
 fzb : ∀ o, W.frozen? ⟨bc, o, none⟩ = false
 kb : ∀ c ob, c ≠ cB → c ≠ bc → c ≠ gB → WV.heap[c]? = some ob → ob.isCells = true → W.heap[c]? = some ob
theorem EI.keep {WV : World} {cB oB bc gB base K R : Nat} {dt : Int} {out : (Nat → C3) → Nat → C3} {RL : List C3} {L : List Nat} {W : World} (h : EI WV cB oB bc gB base K R dt out RL L W) (c o : Nat) (x : Value) (_ : c < WV.heap.size) (h1 : c ≠ cB) (h2 : c ≠ bc) (h3 : c ≠ gB) (hx : WV.cell? ⟨c, o, none⟩ = some x) : W.cell? ⟨c, o, none⟩ = some x := by
 obtain ⟨ob, q1, q2⟩ := cells_of_cell hx
 exact (World.cell?_of_block (w := WV) (a := ⟨c, o, none⟩) ((h.kb c ob h1 h2 h3 q1 q2).trans q1.symm)).trans hx
theorem zj21 {A B : World} {base e size n : Nat} {v : Value} {xs : List Value} {row : Option Nat} (h : A.ownsRow base e size v n xs) (hg : A.grownBy B row) (hr : ∀ r, row = some r → ∃ o : Obj, A.heap[r]? = some o ∧ o.isCells = false) : B.ownsRow base e size v n xs := by
 refine ⟨h.1, ?_⟩
 rcases h.2 with h2 | ⟨g, cap, cur, rfl, q1, q2, q3⟩
 ·exact Or.inl h2
 ·exact Or.inr ⟨g, cap, cur, rfl, q1, (grownBy_keeps_cells hg hr q2 rfl).trans q2, q3⟩
theorem EI.kept {WV : World} {cB oB bc gB base K R : Nat} {dt : Int} {out : (Nat → C3) → Nat → C3} {RL : List C3} {L : List Nat} {A B : World} {row : Option Nat} (hKR : 0 < R * K) (h : EI WV cB oB bc gB base K R dt out RL L A) (hg : A.grownBy B row) (hr : ∀ r, row = some r → ∃ o : Obj, A.heap[r]? = some o ∧ o.isCells = false) : EI WV cB oB bc gB base K R dt out RL L B := by
 obtain ⟨rv, Zl, f, h1, h2, h3, h4, h5, h6, h7, h8⟩ := h.ex
 refine ⟨⟨rv, Zl, f, cell_kept h1 hg hr, zj21 h2 hg hr, h3, h4, h5, fun j hj => ⟨cell_kept (h6 j hj).1 hg hr, cell_kept (h6 j hj).2.1 hg hr, cell_kept (h6 j hj).2.2 hg hr⟩, h7, h8⟩, (frozen_kept h1 hg hr).trans h.fzc, fun o => ?_, fun c ob h1 h2 h3 hb hcl => (grownBy_keeps_cells hg hr (h.kb c ob h1 h2 h3 hb hcl) hcl).trans (h.kb c ob h1 h2 h3 hb hcl)⟩
 obtain ⟨ob, q1, q2⟩ := cells_of_cell (h6 0 hKR).1
 exact (World.frozen?_of_block (w := A) (a := ⟨bc, o, none⟩) (grownBy_keeps_cells hg hr q1 q2)).trans (h.fzb o)
theorem zn16 {L : List Nat} {x : Nat} (h : L ++ [x] = List.range (L ++ [x]).length) : L = List.range L.length ∧ x = L.length := by
 rw [List.length_append, List.length_singleton, List.range_succ] at h
 have := List.append_inj h (by simp)
 exact ⟨this.1, by simpa using this.2⟩
theorem EI.step {WV : World} {cB oB bc gB base K R x : Nat} {dt : Int} {out : (Nat → C3) → Nat → C3} {RL : List C3} {L : List Nat} {W W' : World} (hK : 0 < K) (hx : x < R) (hcong : ∀ f g : Nat → C3, (∀ i, i < K → f i = g i) → ∀ i, i < K → out f i = out g i) (h : EI WV cB oB bc gB base K R dt out RL L W) (hVW : WV.heap.size ≤ W.heap.size)
  {rv : Value} {Zl : List C3} {f : Nat → C3} (h3 : Zl.length = L.length * K) (h4 : ∀ c, rv.ownBlock = some c → c ≠ cB ∧ c ≠ bc ∧ c ≠ oB) (h5 : ∀ c, rv.ownBlock = some c → c = gB ∨ WV.heap.size ≤ c) (h6 : CF W bc 0 (R * K) f) (h7 : ∀ j, j < R * K → OkC dt (f j)) (h8 : L = List.range L.length → (∀ j, L.length * K ≤ j → j < R * K → f j = RL.getD j k0) ∧ Zl = (ZL out RL K R).take (L.length * K))
  (s : B1 W cB oB bc base (x * K * 3) K dt rv Zl ((List.range K).map (out fun i => f (x * K + i))) W') : EI WV cB oB bc gB base K R dt out RL (L ++ [x]) W' := by
 obtain ⟨rv', s1, s2, s3, s4⟩ := s.ex
 obtain ⟨f', l1, l2⟩ := s.lane
 have hle : (x + 1) * K ≤ R * K := Nat.mul_le_mul_right K hx
 rw [Nat.add_mul, Nat.one_mul] at hle
 have eL : (L ++ [x]).length = L.length + 1 := by simp
 have eZ : (Zl ++ (List.range K).map (out fun i => f (x * K + i))).length = Zl.length + K := by simp
 refine ⟨⟨rv', Zl ++ (List.range K).map (out fun i => f (x * K + i)), fun j => if x * K ≤ j ∧ j < x * K + K then f' (j - x * K) else f j, s1, ?_, ?_, s3, fun c hc => ?_, fun j hj => ?_, fun j hj => ?_, fun hr => ?_⟩, (s.fc 0).trans h.fzc, fun o => (s.fb o).trans (h.fzb o), fun c ob q1 q2 q3 hb hcl => ?_⟩
 ·rw [eZ]; exact s2
 ·rw [eZ, eL, Nat.add_mul, Nat.one_mul, h3]
 ·rcases s4 c hc with z | z
  ·exact h5 c z
  ·exact Or.inr (Nat.le_trans hVW z)
 ·by_cases z : x * K ≤ j ∧ j < x * K + K
  ·simp only [if_pos z]
   have q := l1 (j - x * K) (by omega)
   rw [show x * K * 3 + (j - x * K) * 3 = 0 + j * 3 by omega] at q
   exact q
  ·simp only [if_neg z]
   obtain ⟨a, b, c⟩ := h6 j hj
   exact ⟨s.rest _ _ (by omega) a, s.rest _ _ (by omega) b, s.rest _ _ (by omega) c⟩
 ·by_cases z : x * K ≤ j ∧ j < x * K + K
  ·simp only [if_pos z]; exact l2 _ (by omega)
  ·simp only [if_neg z]; exact h7 j hj
 ·obtain ⟨r1, r2⟩ := zn16 hr
  obtain ⟨g1, g2⟩ := h8 r1
  rw [eL]
  refine ⟨fun j hj hj2 => ?_, ?_⟩
  ·rw [Nat.add_mul, Nat.one_mul] at hj
   have hn : ¬ (x * K ≤ j ∧ j < x * K + K) := by rw [r2]; omega
   simp only [if_neg hn]
   exact g1 j (by omega) hj2
  ·rw [zo25 out RL hK (by omega), ← g2, r2]
   congr 1
   refine List.map_congr_left fun i hi => ?_
   refine hcong _ _ (fun m hm => ?_) i (List.mem_range.1 hi)
   rw [r2] at hle
   exact g1 _ (by omega) (by omega)
 ·have q := h.kb c ob q1 q2 q3 hb hcl
  have hcl2 : c < WV.heap.size := (Array.getElem?_eq_some_iff.1 hb).1
  refine (s.keep c (Array.getElem?_eq_some_iff.1 q).1 q1 q2 (fun e => ?_)).trans q
  rcases h5 c e with z | z
  ·exact q3 z
  ·omega
theorem zb15 (w : World) (b o : Nat) (vs : List Value) (q : Nat) (hq : o + vs.length ≤ q) : (stL w b o vs).cell? ⟨b, q, none⟩ = w.cell? ⟨b, q, none⟩ := by
 induction vs generalizing w o with
 | nil => rfl
 | cons v vs ih =>
  simp only [List.length_cons] at hq
  refine (ih _ (o + 1) (by omega)).trans ?_
  exact World.cell?_setCell_other _ _ _ _ (by intro e; simp only [Addr.mk.injEq] at e; omega)
theorem zp22 (w : World) (b o : Nat) (vs : List Value) : MuB b w (stL w b o vs) := by
 induction vs generalizing w o with
 | nil => exact MuB.refl _ _
 | cons v vs ih =>
  have h1 := ih (w.setCell ⟨b, o, none⟩ v) (o + 1)
  have h0 := (MuB.refl b w).set o v
  exact ⟨h1.os.trans h0.os, h1.tape.trans h0.tape, h1.output.trans h0.output, Nat.le_trans h0.size h1.size, fun k hk hn => (h1.block k (Nat.lt_of_lt_of_le hk h0.size) hn).trans (h0.block k hk hn)⟩
attribute [local go_sem] Oper.semAt_some
def KpO (w : World) (cB gB : Nat) (W : World) : Prop := ∀ c ob, c ≠ cB → c ≠ gB → w.heap[c]? = some ob → ob.isCells = true → W.heap[c]? = some ob
theorem KpO.cell {w : World} {cB gB : Nat} {W : World} (h : KpO w cB gB W) {c o : Nat} {x : Value} (h1 : c ≠ cB) (h2 : c ≠ gB) (hx : w.cell? ⟨c, o, none⟩ = some x) : W.cell? ⟨c, o, none⟩ = some x := by
 obtain ⟨ob, q1, q2⟩ := cells_of_cell hx
 exact (World.cell?_of_block (w := w) (a := ⟨c, o, none⟩) ((h c ob h1 h2 q1 q2).trans q1.symm)).trans hx
theorem KpO.frozen {w : World} {cB gB : Nat} {W : World} (h : KpO w cB gB W) {c o : Nat} {x : Value} (h1 : c ≠ cB) (h2 : c ≠ gB) (hx : w.cell? ⟨c, o, none⟩ = some x) (q : Nat) : W.frozen? ⟨c, q, none⟩ = w.frozen? ⟨c, q, none⟩ := by
 obtain ⟨ob, q1, q2⟩ := cells_of_cell hx
 exact World.frozen?_of_block (w := w) (a := ⟨c, q, none⟩) ((h c ob h1 h2 q1 q2).trans q1.symm)
def ElnOk (w : World) (cB gB base n : Nat) (Z : List C3) (e : Ending) (w' : World) : Prop := e = .returned (.tuple #[]) ∧ ∃ rv, w'.cell? ⟨cB, 0, none⟩ = some rv ∧ w'.ownsRow base 66 3 rv n (flat Z) ∧ KpO w cB gB w' ∧ w.heap.size ≤ w'.heap.size ∧ ∀ lo, lo ≤ cB → lo ≤ base → lo ≤ w.heap.size → Below lo w w'
theorem zb12 (n : Nat) (hn : 6 ≤ n) (xs sv : List Int) (off st dt0 : Int) (ax K : Nat) {w : World} {su : Option Addr} {cu cB oB gB cap0 gf base : Nat} {cb : Array Value} {cs : List C3} {dt : Int} {out : (Nat → C3) → Nat → C3} (hcv : CV w (σ su cs.length cu) cs) (hlc : cs.length ≤ 1048576) (hv : ValidV xs sv off) (hin : ∀ p ∈ offsL xs sv off, p < (cs.length : Int)) (hax : ax < xs.length) (hKx : xs.getD ax 0 = (K : Int))
  (hokc : ∀ p ∈ offsL xs sv off, OkC dt (cs.getD p.toNat k0)) (hbox : w.cell? ⟨cB, 0, none⟩ = some (σ (some ⟨gB, 0, none⟩) 0 cap0)) (hfz : w.frozen? ⟨cB, 0, none⟩ = false) (hown : w.ownsRow base 66 3 (σ (some ⟨gB, 0, none⟩) 0 cap0) 0 []) (hgc : gB ≠ cB) (hgo : gB ≠ oB) (hobx : w.cell? ⟨oB, 0, none⟩ = some (.func (.func gf) #[] cb)) (hoc : oB ≠ cB)
  (eg : ∀ args w, (callFunc gf args).run Tryz.prog w = .ok (.enter gf args) w) (hcong : ∀ f g : Nat → C3, (∀ i, i < K → f i = g i) → ∀ i, i < K → out f i = out g i) (hof : ∀ bc, w.heap.size ≤ bc → OfK gf cb bc K dt out (KpO w cB gB)) :
  CallsIn Fence.wide n Tryz.prog 41 #[γ #[O ι xs.length, O ι (xs.getD 0 0), O ι (xs.getD 1 0), O ι (xs.getD 2 0), O ι (xs.getD 3 0), O ι (sv.getD 0 0), O ι (sv.getD 1 0), O ι (sv.getD 2 0), O ι (sv.getD 3 0), O ι off, O ι st, O ι dt0, σ su cs.length cu], O ι ax, .func (.func 99) #[] #[π (some ⟨cB, 0, none⟩), π (some ⟨oB, 0, none⟩)]] w fun e w' => ElnOk w cB gB base (plen (xs.eraseIdx ax) * K) (ZL out ((offsL (mvL ax xs) (mvL ax sv) off).map fun p => cs.getD p.toNat k0) K (plen (xs.eraseIdx ax))) e w' := by
 have hdd : ∀ k : Nat, (Fence.wide.depth.isSome = true → 1 ≤ k) := fun k h => by cases h
 have hx4 := hv.1.1
 have hnn : ∀ m ∈ xs, 0 ≤ m := fun m hm => (zy hv.1 m hm).1
 have hpp := zw hnn
 have hRK : plen xs = plen (xs.eraseIdx ax) * K := by rw [zt2 ax xs hax, hKx]; rfl
 have hcnt := hide (fun W => zp2 W xs hv.1.1 hv.1.2.1)
 unfold shp at hcnt
 have hsB := zj hbox
 have hoB := zj hobx
 have hgB := (hown.lt gB rfl)
 by_cases hz : prod xs = 0
 ·have h0 : plen (xs.eraseIdx ax) * K = 0 := by omega
  have HE : Hid (∀ W, Ext w W → ElnOk w cB gB base (plen (xs.eraseIdx ax) * K) (ZL out ((offsL (mvL ax xs) (mvL ax sv) off).map fun p => cs.getD p.toNat k0) K (plen (xs.eraseIdx ax))) (.returned (.tuple #[])) W) := fun W x => by
   refine ⟨rfl, _, x.box hbox, ?_, fun c ob _ _ hb _ => (x.bl.block c (Array.getElem?_eq_some_iff.1 hb).1).trans hb, x.bl.size, fun lo _ _ hlo => x.bl.mono hlo⟩
   unfold ZL
   rw [h0]
   exact zk3 hown x.bl
  rw [hz] at hcnt
  clear hin hokc hof hcong hRK hpp
  generalize xs.getD 0 0 = a0 at *
  generalize xs.getD 1 0 = a1 at *
  generalize xs.getD 2 0 = a2 at *
  generalize xs.getD 3 0 = a3 at *
  generalize sv.getD 0 0 = s0' at *
  generalize sv.getD 1 0 = s1 at *
  generalize sv.getD 2 0 = s2 at *
  generalize sv.getD 3 0 = s3 at *
  have x0 : Ext w ((w.alloc (χ #[O ι xs.length, O ι a0, O ι a1, O ι a2, O ι a3, O ι s0', O ι s1, O ι s2, O ι s3, O ι off, O ι st, O ι dt0, σ su cs.length cu] 85)).alloc (χ #[.func (.func 99) #[] #[π (some ⟨cB, 0, none⟩), π (some ⟨oB, 0, none⟩)]] 96)) := ((Ext.refl w).alloc _ _).alloc _ _
  have x1 : Ext (w.alloc (χ #[O ι xs.length, O ι a0, O ι a1, O ι a2, O ι a3, O ι s0', O ι s1, O ι s2, O ι s3, O ι off, O ι st, O ι dt0, σ su cs.length cu] 85)) ((w.alloc (χ #[O ι xs.length, O ι a0, O ι a1, O ι a2, O ι a3, O ι s0', O ι s1, O ι s2, O ι s3, O ι off, O ι st, O ι dt0, σ su cs.length cu] 85)).alloc (χ #[.func (.func 99) #[] #[π (some ⟨cB, 0, none⟩), π (some ⟨oB, 0, none⟩)]] 96)) := (Ext.refl _).alloc _ _
  have ka : ∀ j x, #[O ι xs.length, O ι a0, O ι a1, O ι a2, O ι a3, O ι s0', O ι s1, O ι s2, O ι s3, O ι off, O ι st, O ι dt0, σ su cs.length cu][j]? = some x → (((w.alloc (χ #[O ι xs.length, O ι a0, O ι a1, O ι a2, O ι a3, O ι s0', O ι s1, O ι s2, O ι s3, O ι off, O ι st, O ι dt0, σ su cs.length cu] 85)).alloc (χ #[.func (.func 99) #[] #[π (some ⟨cB, 0, none⟩), π (some ⟨oB, 0, none⟩)]] 96))).cell? ⟨w.heap.size, j, none⟩ = some x := fun j x hx => x1.box ((zd w #[O ι xs.length, O ι a0, O ι a1, O ι a2, O ι a3, O ι s0', O ι s1, O ι s2, O ι s3, O ι off, O ι st, O ι dt0, σ su cs.length cu] 85 w.heap.size rfl j).trans hx)
  have k0' := ka 0 _ rfl
  have k1' := ka 1 _ rfl
  have k2' := ka 2 _ rfl
  have k3' := ka 3 _ rfl
  have k4' := ka 4 _ rfl
  have X0 := hide x0
  clear ka x0 x1 hcv hv hown h0 hz hgB hbox hobx
  refine callsIn_of_wp_marks Tryz.func41 rfl trivial ?_ rfl
  simp only [Tryz.ntmps41, List.size_toArray, List.length_cons, List.length_nil, Nat.reduceAdd, Nat.reduceSub, Array.replicate_succ, Array.replicate_zero, List.push_toArray, List.append_toArray, List.nil_append, List.cons_append]
  gi_wp2
  refine ⟨trivial, hdd _, ?_⟩
  refine (callsIn_wide.2 (hcnt.out _)).mono ?_
  rintro e w3 ⟨rfl, hw3⟩
  have x3 : Ext ((w.alloc (χ #[O ι xs.length, O ι a0, O ι a1, O ι a2, O ι a3, O ι s0', O ι s1, O ι s2, O ι s3, O ι off, O ι st, O ι dt0, σ su cs.length cu] 85)).alloc (χ #[.func (.func 99) #[] #[π (some ⟨cB, 0, none⟩), π (some ⟨oB, 0, none⟩)]] 96)) w3 := by rw [hw3]; exact (Ext.refl _).alloc _ _
  have HR := hide (HE.out w3 (X0.out.trans x3))
  clear hw3 x3 HE
  gi_wp2
  exact ⟨_, results_none rfl _ _ _, HR.out⟩
 ·have hpos : ∀ m ∈ xs, 1 ≤ m := fun m hm => (zg1 hv.1 hz m hm).1
  have hvm := zr9 hv hax
  have hinm : ∀ p ∈ offsL (mvL ax xs) (mvL ax sv) off, p < (cs.length : Int) := zu23 hv hax hin
  have hokm : ∀ p ∈ offsL (mvL ax xs) (mvL ax sv) off, OkC dt (cs.getD p.toNat k0) := zu23 hv hax hokc
  have hlx : (mvL ax xs).length = xs.length := zr3 hax
  have hKp : 0 < K := by have := zd2 hpos ax hax; omega
  have hK4 : K ≤ 4096 := by have := zd2 (fun m hm => zy hv.1 m hm) ax hax; omega
  have hR4 : plen (xs.eraseIdx ax) * K ≤ 4096 := by have := hv.1.2.2; omega
  have hRp : 0 < plen (xs.eraseIdx ax) * K := by have := zp4 xs hpos; omega
  have hrd := hide (fun W (hB : Bel w W) => zd21 (n - 1) (by omega) (mvL ax xs) (mvL ax sv) off st dt0 (hcv.keep hB) hlc hvm hinm)
  have hal := hide (fun W => zf9 W xs sv off ax hax hx4 hv.2.1)
  have hcl : ∀ j, j = 1 + ax → (#[O ι xs.length, O ι (xs.getD 0 0), O ι (xs.getD 1 0), O ι (xs.getD 2 0), O ι (xs.getD 3 0), O ι (sv.getD 0 0), O ι (sv.getD 1 0), O ι (sv.getD 2 0), O ι (sv.getD 3 0), O ι off, O ι st, O ι dt0, σ su cs.length cu] : Array Value)[j]? = some (O ι (K : Int)) := fun j hj => by
   subst hj
   rcases (show ax = 0 ∨ ax = 1 ∨ ax = 2 ∨ ax = 3 by omega) with rfl | rfl | rfl | rfl <;> rw [← hKx] <;> rfl
  obtain ⟨RL, hRL⟩ : ∃ RL, RL = (offsL (mvL ax xs) (mvL ax sv) off).map fun p => cs.getD p.toNat k0 := ⟨_, rfl⟩
  have hRLl : RL.length = plen (xs.eraseIdx ax) * K := by
   rw [hRL, List.length_map, (zx6 hv hax).1, zx hv]; omega
  have hRLo : Hid (∀ j, j < RL.length → OkC dt (RL.getD j k0)) := fun j hj => by
   have hj2 := hj
   rw [hRL, List.length_map] at hj2
   rw [hRL, List.getD_eq_getElem?_getD, List.getElem?_map, List.getElem?_eq_getElem hj2]
   exact hokm _ (List.getElem_mem hj2)
  rw [← hRL] at hrd ⊢
  unfold vw at hal
  rw [hlx] at hrd hal
  rw [hpp, hRK] at hcnt
  generalize hRq : plen (xs.eraseIdx ax) = R at *
  have HKR := hide hR4
  generalize hKq : R * K = KQ at *
  have HKQ := hide hKq
  have hzb : ((KQ : Int) == 0) = false := by rw [beq_eq_false_iff_ne]; omega
  have ha0 : (0 : Int) ≤ (ax : Int) := Int.natCast_nonneg _
  have ha4 : (ax : Int) < 4 := by omega
  clear hRL hRq hKq hRK hpp hnn hpos hvm hinm hokm hokc hin hlx hz hv
  generalize xs.getD 0 0 = a0 at *
  generalize xs.getD 1 0 = a1 at *
  generalize xs.getD 2 0 = a2 at *
  generalize xs.getD 3 0 = a3 at *
  generalize sv.getD 0 0 = s0' at *
  generalize sv.getD 1 0 = s1 at *
  generalize sv.getD 2 0 = s2 at *
  generalize sv.getD 3 0 = s3 at *
  generalize (mvL ax xs).getD 0 0 = m0 at *
  generalize (mvL ax xs).getD 1 0 = m1 at *
  generalize (mvL ax xs).getD 2 0 = m2 at *
  generalize (mvL ax xs).getD 3 0 = m3 at *
  generalize (mvL ax sv).getD 0 0 = r0 at *
  generalize (mvL ax sv).getD 1 0 = r1 at *
  generalize (mvL ax sv).getD 2 0 = r2 at *
  generalize (mvL ax sv).getD 3 0 = r3 at *
  have x0 : Ext w ((w.alloc (χ #[O ι xs.length, O ι a0, O ι a1, O ι a2, O ι a3, O ι s0', O ι s1, O ι s2, O ι s3, O ι off, O ι st, O ι dt0, σ su cs.length cu] 85)).alloc (χ #[.func (.func 99) #[] #[π (some ⟨cB, 0, none⟩), π (some ⟨oB, 0, none⟩)]] 96)) := ((Ext.refl w).alloc _ _).alloc _ _
  have x1 : Ext (w.alloc (χ #[O ι xs.length, O ι a0, O ι a1, O ι a2, O ι a3, O ι s0', O ι s1, O ι s2, O ι s3, O ι off, O ι st, O ι dt0, σ su cs.length cu] 85)) ((w.alloc (χ #[O ι xs.length, O ι a0, O ι a1, O ι a2, O ι a3, O ι s0', O ι s1, O ι s2, O ι s3, O ι off, O ι st, O ι dt0, σ su cs.length cu] 85)).alloc (χ #[.func (.func 99) #[] #[π (some ⟨cB, 0, none⟩), π (some ⟨oB, 0, none⟩)]] 96)) := (Ext.refl _).alloc _ _
  have ka : ∀ j x, #[O ι xs.length, O ι a0, O ι a1, O ι a2, O ι a3, O ι s0', O ι s1, O ι s2, O ι s3, O ι off, O ι st, O ι dt0, σ su cs.length cu][j]? = some x → (((w.alloc (χ #[O ι xs.length, O ι a0, O ι a1, O ι a2, O ι a3, O ι s0', O ι s1, O ι s2, O ι s3, O ι off, O ι st, O ι dt0, σ su cs.length cu] 85)).alloc (χ #[.func (.func 99) #[] #[π (some ⟨cB, 0, none⟩), π (some ⟨oB, 0, none⟩)]] 96))).cell? ⟨w.heap.size, j, none⟩ = some x := fun j x hx => x1.box ((zd w #[O ι xs.length, O ι a0, O ι a1, O ι a2, O ι a3, O ι s0', O ι s1, O ι s2, O ι s3, O ι off, O ι st, O ι dt0, σ su cs.length cu] 85 w.heap.size rfl j).trans hx)
  have kf : (((w.alloc (χ #[O ι xs.length, O ι a0, O ι a1, O ι a2, O ι a3, O ι s0', O ι s1, O ι s2, O ι s3, O ι off, O ι st, O ι dt0, σ su cs.length cu] 85)).alloc (χ #[.func (.func 99) #[] #[π (some ⟨cB, 0, none⟩), π (some ⟨oB, 0, none⟩)]] 96))).cell? ⟨w.heap.size + 1, 0, none⟩ = some (.func (.func 99) #[] #[π (some ⟨cB, 0, none⟩), π (some ⟨oB, 0, none⟩)]) := zd (w.alloc (χ #[O ι xs.length, O ι a0, O ι a1, O ι a2, O ι a3, O ι s0', O ι s1, O ι s2, O ι s3, O ι off, O ι st, O ι dt0, σ su cs.length cu] 85)) #[.func (.func 99) #[] #[π (some ⟨cB, 0, none⟩), π (some ⟨oB, 0, none⟩)]] 96 (w.heap.size + 1) (by simp) 0
  have hs2 : (((w.alloc (χ #[O ι xs.length, O ι a0, O ι a1, O ι a2, O ι a3, O ι s0', O ι s1, O ι s2, O ι s3, O ι off, O ι st, O ι dt0, σ su cs.length cu] 85)).alloc (χ #[.func (.func 99) #[] #[π (some ⟨cB, 0, none⟩), π (some ⟨oB, 0, none⟩)]] 96))).heap.size = w.heap.size + 2 := by simp
  have HKA := hide ka
  have HKF := hide kf
  have X0 := hide x0
  have HS2 := hide hs2
  have k0' := ka 0 _ rfl
  have k1' := ka 1 _ rfl
  have k2' := ka 2 _ rfl
  have k3' := ka 3 _ rfl
  have k4' := ka 4 _ rfl
  have HBX := hide hbox
  have HOX := hide hobx
  have HOW := hide hown
  have HOF := hide hof
  have HCG := hide hcong
  have HCL := hide hcl
  clear ka kf x0 x1 hs2 hcv hown hbox hobx hof hcong hcl hKx
  refine callsIn_of_wp_marks Tryz.func41 rfl trivial ?_ rfl
  simp only [Tryz.ntmps41, List.size_toArray, List.length_cons, List.length_nil, Nat.reduceAdd, Nat.reduceSub, Array.replicate_succ, Array.replicate_zero, List.push_toArray, List.append_toArray, List.nil_append, List.cons_append]
  gi_wp2
  refine ⟨trivial, hdd _, ?_⟩
  refine (callsIn_wide.2 (hcnt.out _)).mono ?_
  rintro e w3 ⟨rfl, hw3⟩
  have x3 : Ext ((w.alloc (χ #[O ι xs.length, O ι a0, O ι a1, O ι a2, O ι a3, O ι s0', O ι s1, O ι s2, O ι s3, O ι off, O ι st, O ι dt0, σ su cs.length cu] 85)).alloc (χ #[.func (.func 99) #[] #[π (some ⟨cB, 0, none⟩), π (some ⟨oB, 0, none⟩)]] 96)) w3 := by rw [hw3]; exact (Ext.refl _).alloc _ _
  have X3 := hide (X0.out.trans x3)
  have HK3 : Hid (∀ j x, #[O ι xs.length, O ι a0, O ι a1, O ι a2, O ι a3, O ι s0', O ι s1, O ι s2, O ι s3, O ι off, O ι st, O ι dt0, σ su cs.length cu][j]? = some x → w3.cell? ⟨w.heap.size, j, none⟩ = some x) := fun j x hx => x3.box (HKA.out j x hx)
  have HF3 := hide (x3.box HKF.out)
  have cl := HK3.out (1 + ax) _ (HCL.out _ rfl)
  have c0 := HK3.out 0 _ rfl
  have c1 := HK3.out 1 _ rfl
  have c2 := HK3.out 2 _ rfl
  have c3 := HK3.out 3 _ rfl
  have c4 := HK3.out 4 _ rfl
  have c5 := HK3.out 5 _ rfl
  have c6 := HK3.out 6 _ rfl
  have c7 := HK3.out 7 _ rfl
  have c8 := HK3.out 8 _ rfl
  have c9 := HK3.out 9 _ rfl
  have c10 := HK3.out 10 _ rfl
  have c11 := HK3.out 11 _ rfl
  have c12 := HK3.out 12 _ rfl
  clear hw3 hcnt k0' k1' k2' k3' k4' x3 HKA HKF HCL
  gi_wp2
  refine ⟨trivial, hdd _, ?_⟩
  refine (callsIn_wide.2 (hal.out w3)).mono ?_
  rintro e w4 ⟨rfl, x4⟩
  have X4 := hide (X3.out.trans x4)
  have HF4 := hide (x4.box HF3.out)
  have HK4 : Hid (∀ j x, #[O ι xs.length, O ι a0, O ι a1, O ι a2, O ι a3, O ι s0', O ι s1, O ι s2, O ι s3, O ι off, O ι st, O ι dt0, σ su cs.length cu][j]? = some x → w4.cell? ⟨w.heap.size, j, none⟩ = some x) := fun j x hx => x4.box (HK3.out j x hx)
  clear cl hal HK3 HF3 x4 c0 c1 c2 c3 c4 c5 c6 c7 c8 c9 c10 c11 c12
  have c0 := HK4.out 0 _ rfl
  have c1 := HK4.out 1 _ rfl
  have c2 := HK4.out 2 _ rfl
  have c3 := HK4.out 3 _ rfl
  have c4 := HK4.out 4 _ rfl
  have c5 := HK4.out 5 _ rfl
  have c6 := HK4.out 6 _ rfl
  have c7 := HK4.out 7 _ rfl
  have c8 := HK4.out 8 _ rfl
  have c9 := HK4.out 9 _ rfl
  have c10 := HK4.out 10 _ rfl
  have c11 := HK4.out 11 _ rfl
  have c12 := HK4.out 12 _ rfl
  have fz := fun (q : Nat) => X4.out.unfrozen (b := w.heap.size) (Nat.le_refl _) q
  have f0 := fz 0
  have f1 := fz 1
  have f2 := fz 2
  have f3 := fz 3
  have f4 := fz 4
  have f5 := fz 5
  have f6 := fz 6
  have f7 := fz 7
  have f8 := fz 8
  have f9 := fz 9
  clear fz
  have HST : Hid (MuB w.heap.size w4 ((((((((((w4.setCell ⟨w.heap.size, 0, none⟩ (O ι xs.length)).setCell ⟨w.heap.size, 1, none⟩ (O ι m0)).setCell ⟨w.heap.size, 2, none⟩ (O ι m1)).setCell ⟨w.heap.size, 3, none⟩ (O ι m2)).setCell ⟨w.heap.size, 4, none⟩ (O ι m3)).setCell ⟨w.heap.size, 5, none⟩ (O ι r0)).setCell ⟨w.heap.size, 6, none⟩ (O ι r1)).setCell ⟨w.heap.size, 7, none⟩ (O ι r2)).setCell ⟨w.heap.size, 8, none⟩ (O ι r3)).setCell ⟨w.heap.size, 9, none⟩ (O ι off))) := zp22 w4 w.heap.size 0 [O ι xs.length, O ι m0, O ι m1, O ι m2, O ι m3, O ι r0, O ι r1, O ι r2, O ι r3, O ι off]
  have HSC : Hid (∀ q v, [O ι xs.length, O ι m0, O ι m1, O ι m2, O ι m3, O ι r0, O ι r1, O ι r2, O ι r3, O ι off][q]? = some v → (((((((((((w4.setCell ⟨w.heap.size, 0, none⟩ (O ι xs.length)).setCell ⟨w.heap.size, 1, none⟩ (O ι m0)).setCell ⟨w.heap.size, 2, none⟩ (O ι m1)).setCell ⟨w.heap.size, 3, none⟩ (O ι m2)).setCell ⟨w.heap.size, 4, none⟩ (O ι m3)).setCell ⟨w.heap.size, 5, none⟩ (O ι r0)).setCell ⟨w.heap.size, 6, none⟩ (O ι r1)).setCell ⟨w.heap.size, 7, none⟩ (O ι r2)).setCell ⟨w.heap.size, 8, none⟩ (O ι r3)).setCell ⟨w.heap.size, 9, none⟩ (O ι off))).cell? ⟨w.heap.size, q, none⟩ = some v) := fun q v hq => by
   have := zc15 w4 w.heap.size 0 [O ι xs.length, O ι m0, O ι m1, O ι m2, O ι m3, O ι r0, O ι r1, O ι r2, O ι r3, O ι off] (fun q _ h2 => by
    simp only [List.length_cons, List.length_nil] at h2
    rcases (show q = 0 ∨ q = 1 ∨ q = 2 ∨ q = 3 ∨ q = 4 ∨ q = 5 ∨ q = 6 ∨ q = 7 ∨ q = 8 ∨ q = 9 by omega) with rfl | rfl | rfl | rfl | rfl | rfl | rfl | rfl | rfl | rfl
    ·exact ⟨_, c0⟩
    ·exact ⟨_, c1⟩
    ·exact ⟨_, c2⟩
    ·exact ⟨_, c3⟩
    ·exact ⟨_, c4⟩
    ·exact ⟨_, c5⟩
    ·exact ⟨_, c6⟩
    ·exact ⟨_, c7⟩
    ·exact ⟨_, c8⟩
    ·exact ⟨_, c9⟩) q v hq
   rw [Nat.zero_add] at this
   exact this
  have HSL : Hid (∀ q, 10 ≤ q → (((((((((((w4.setCell ⟨w.heap.size, 0, none⟩ (O ι xs.length)).setCell ⟨w.heap.size, 1, none⟩ (O ι m0)).setCell ⟨w.heap.size, 2, none⟩ (O ι m1)).setCell ⟨w.heap.size, 3, none⟩ (O ι m2)).setCell ⟨w.heap.size, 4, none⟩ (O ι m3)).setCell ⟨w.heap.size, 5, none⟩ (O ι r0)).setCell ⟨w.heap.size, 6, none⟩ (O ι r1)).setCell ⟨w.heap.size, 7, none⟩ (O ι r2)).setCell ⟨w.heap.size, 8, none⟩ (O ι r3)).setCell ⟨w.heap.size, 9, none⟩ (O ι off))).cell? ⟨w.heap.size, q, none⟩ = w4.cell? ⟨w.heap.size, q, none⟩) := fun q hq => zb15 w4 w.heap.size 0 [O ι xs.length, O ι m0, O ι m1, O ι m2, O ι m3, O ι r0, O ι r1, O ι r2, O ι r3, O ι off] q hq
  gi_wp2
  refine ⟨trivial, hdd _, ?_⟩
  generalize ((((((((((w4.setCell ⟨w.heap.size, 0, none⟩ (O ι xs.length)).setCell ⟨w.heap.size, 1, none⟩ (O ι m0)).setCell ⟨w.heap.size, 2, none⟩ (O ι m1)).setCell ⟨w.heap.size, 3, none⟩ (O ι m2)).setCell ⟨w.heap.size, 4, none⟩ (O ι m3)).setCell ⟨w.heap.size, 5, none⟩ (O ι r0)).setCell ⟨w.heap.size, 6, none⟩ (O ι r1)).setCell ⟨w.heap.size, 7, none⟩ (O ι r2)).setCell ⟨w.heap.size, 8, none⟩ (O ι r3)).setCell ⟨w.heap.size, 9, none⟩ (O ι off)) = W5 at HST HSC HSL ⊢
  have HBW : Hid (Bel w W5) := HST.out.below X4.out.bl (Nat.le_refl _)
  have HF5 := hide (HST.out.box (by omega) HF4.out)
  clear HST HSC HSL HK4 HF4 X3 c0 c1 c2 c3 c4 c5 c6 c7 c8 c9 c10 c11 c12 f0 f1 f2 f3 f4 f5 f6 f7 f8 f9
  refine (hrd.out W5 HBW.out).mono ?_
  rintro e w6 ⟨sa, cap, rfl, hO, hB6, hcap⟩
  rcases hO with hO | ⟨bc, rfl, hbc, hrow, hbfz⟩
  ·rw [hO] at hRLl; simp at hRLl; omega
  have F6 := hide (Bel.box hB6 HF5.out)
  have HB6 := hide (Bel.tr HBW.out hB6)
  have HR6 := hide hrow
  have HZ6 := hide hbfz
  have hs6 : w.heap.size + 2 ≤ w6.heap.size := by have := zj F6.out; omega
  have hs5 : w.heap.size + 2 ≤ W5.heap.size := by have := zj HF5.out; omega
  have hbc6 : bc < w6.heap.size := zj (hrow 0 (by omega)).1
  rw [hRLl] at hcap
  clear hrow hB6 hrd hbfz HF5 X0 HS2 X4
  rw [hRLl]
  gi_wp2
  refine ⟨trivial, hdd _, ?_⟩
  refine (zj20 _ _ _ _ K hKp hK4 _).mono ?_
  rintro e w' ⟨rfl, rfl⟩
  have h1 : 1 ≤ n := by omega
  gi_wp2
  have xv : Ext w6 ((w6.alloc (χ #[σ (some ⟨bc, 0, none⟩) KQ cap] 61)).alloc (χ #[O ι K] 3)) := ((Ext.refl w6).alloc _ _).alloc _ _
  have xv1 : Ext (w6.alloc (χ #[σ (some ⟨bc, 0, none⟩) KQ cap] 61)) ((w6.alloc (χ #[σ (some ⟨bc, 0, none⟩) KQ cap] 61)).alloc (χ #[O ι K] 3)) := (Ext.refl _).alloc _ _
  have hst2 := hide (zo14 (n - 1) w6.heap.size (w6.heap.size + 1) bc cap R K hKp (by rw [HKQ.out]; exact hR4) (by rw [HKQ.out]; exact hcap) ((w6.alloc (χ #[σ (some ⟨bc, 0, none⟩) KQ cap] 61)).alloc (χ #[O ι K] 3))
   (by rw [HKQ.out]; exact xv1.box (zd w6 #[σ (some ⟨bc, 0, none⟩) KQ cap] 61 w6.heap.size rfl 0)) (zd (w6.alloc (χ #[σ (some ⟨bc, 0, none⟩) KQ cap] 61)) #[O ι K] 3 (w6.heap.size + 1) (by simp) 0))
  have hsV : (((w6.alloc (χ #[σ (some ⟨bc, 0, none⟩) KQ cap] 61)).alloc (χ #[O ι K] 3))).heap.size = w6.heap.size + 2 := by simp
  have FV := hide (xv.box F6.out)
  have RV := hide (HR6.out.keep xv.bl)
  have BV := hide (Bel.tr HB6.out xv.bl)
  have ZV : Hid (∀ o, (((w6.alloc (χ #[σ (some ⟨bc, 0, none⟩) KQ cap] 61)).alloc (χ #[O ι K] 3))).frozen? ⟨bc, o, none⟩ = false) := fun o => (xv.fz _).trans (HZ6.out o)
  have hbv := Bel.box BV.out HBX.out
  have hov := Bel.box BV.out HOX.out
  have hfv : (((w6.alloc (χ #[σ (some ⟨bc, 0, none⟩) KQ cap] 61)).alloc (χ #[O ι K] 3))).frozen? ⟨cB, 0, none⟩ = false := (Below.frozen BV.out (p := ⟨cB, 0, none⟩) hsB).trans hfz
  have HFV := hide hfv
  have HBV := hide hbv
  have HOV := hide hov
  have HWV := hide (zk3 HOW.out BV.out)
  clear hfv xv xv1 F6 HR6 HB6 HZ6 hbv hov HBX HOX HOW
  generalize ((w6.alloc (χ #[σ (some ⟨bc, 0, none⟩) KQ cap] 61)).alloc (χ #[O ι K] 3)) = WV at *
  have I0 : Hid (EI WV cB oB bc gB base K R dt out RL [] WV) := by
   refine ⟨⟨_, [], fun j => RL.getD j k0, HBV.out, HWV.out, by simp, fun c hc => ?_, fun c hc => ?_, fun j hj => ?_, fun j hj => hRLo.out j (by rw [hRLl, ← HKQ.out]; exact hj), fun _ => ⟨fun j _ _ => rfl, by simp⟩⟩, HFV.out, ZV.out, fun _ _ _ _ _ h _ => h⟩
   ·simp only [Value.ownBlock] at hc
    injection hc with hc
    subst hc
    exact ⟨hgc, by omega, hgo⟩
   ·simp only [Value.ownBlock] at hc
    injection hc with hc
    exact Or.inl hc.symm
   ·exact RV.out j (by rw [hRLl, ← HKQ.out]; exact hj)
  refine wpIn_rangeFunc_ownF rfl h1 (gf := 122) (lb := #[π (some ⟨w6.heap.size, 0, none⟩), π (some ⟨w6.heap.size + 1, 0, none⟩)]) rfl trivial (enters_of Tryz.func122 (by kernel_rfl) rfl)
   hst2.out (fun h k => KB.trans h k) (fun W l o o' h1 h2 h3 h4 => zo26 W l o o' h1 h2 h3 h4) (Below.refl _ _) (fun _ => rfl)
   (fun pre W => EI WV cB oB bc gB base K R dt out RL (lnv pre) W ∧ Below (min cB (min base bc)) WV W)
   (fun _ _ _ => False)
   (OwnFrom.and (Own.from (fun (s : List (Ln R)) A B row hs hg hr => (EI.kept (L := lnv s) (by rw [HKQ.out]; exact hRp) hs hg hr : EI WV cB oB bc gB base K R dt out RL (lnv s) B)) _) (ownFrom_below (by omega) (by omega)))
   (fun _ _ _ _ _ hs _ _ => hs)
   ⟨I0.out, Below.refl _ _⟩
   (fun x => { tmps := #[γ #[O ι xs.length, O ι a0, O ι a1, O ι a2, O ι a3, O ι s0', O ι s1, O ι s2, O ι s3, O ι off, O ι st, O ι dt0, σ su cs.length cu], O ι ax, .func (.func 99) #[] #[π (some ⟨cB, 0, none⟩), π (some ⟨oB, 0, none⟩)], π (some ⟨w.heap.size, 0, none⟩), undef, π (some ⟨w.heap.size + 1, 0, none⟩), O ι K, σ (some ⟨bc, x.1 * K * 3, none⟩) K K, π (some ⟨w.heap.size, 0, none⟩), π (some ⟨w.heap.size, 0, none⟩), γ #[O ι xs.length, O ι a0, O ι a1, O ι a2, O ι a3], O ι KQ, .bool false, O ι ax, π (some ⟨w.heap.size, 0, none⟩), π (some ⟨w.heap.size, 0, none⟩), π (some ⟨w.heap.size, 1, none⟩), π (some ⟨w.heap.size, 1 + ax, none⟩), O ι K, π (some ⟨w.heap.size, 0, none⟩), γ #[O ι xs.length, O ι a0, O ι a1, O ι a2, O ι a3, O ι s0', O ι s1, O ι s2, O ι s3, O ι off], O ι ax, γ #[O ι xs.length, O ι m0, O ι m1, O ι m2, O ι m3, O ι r0, O ι r1, O ι r2, O ι r3, O ι off], π (some ⟨w.heap.size, 0, none⟩), γ #[O ι xs.length, O ι m0, O ι m1, O ι m2, O ι m3, O ι r0, O ι r1, O ι r2, O ι r3, O ι off, O ι st, O ι dt0, σ su cs.length cu], σ (some ⟨bc, 0, none⟩) KQ cap, O ι K, .func (.func 122) #[] #[π (some ⟨w6.heap.size, 0, none⟩), π (some ⟨w6.heap.size + 1, 0, none⟩)], σ (some ⟨bc, x.1 * K * 3, none⟩) K K, undef, undef, undef], defers := [] }) ?assign ?body ?done ?stop
  case assign =>
   intro l x W K hK
   gi_wp2
   exact hK
  case body =>
   rintro l pre ⟨x, hx⟩ W ⟨hI, hB⟩ hlen
   obtain ⟨rv, Zl, f, q1, q2, q3, q4, q5, q6, q7, q8⟩ := hI.ex
   have hsz : WV.heap.size ≤ W.heap.size := hB.size
   have hvf := hI.keep (w.heap.size + 1) 0 _ (by omega) (by omega) (by omega) (by omega) FV.out
   have hobx := hI.keep oB 0 _ (by omega) hoc (by omega) (Ne.symm hgo) HOV.out
   have hle : (x + 1) * K ≤ R * K := Nat.mul_le_mul_right K hx
   rw [Nat.add_mul, Nat.one_mul] at hle
   have hle2 : (pre.length + 1) * K ≤ R * K := Nat.mul_le_mul_right K hlen
   rw [Nat.add_mul, Nat.one_mul, HKQ.out] at hle2
   have hlane : CF W bc (x * K * 3) K (fun i => f (x * K + i)) := fun i hi => by
    have q := q6 (x * K + i) (by omega)
    rw [Nat.zero_add, Nat.add_mul] at q
    exact q
   have HS := hide (zb17 (base := base) eg (HOF.out bc (by omega)) (fun c ob h1 h2 hb hcl => have hc := (Array.getElem?_eq_some_iff.1 hb).1; hI.kb c ob h1 (by omega) h2 ((BV.out.block c hc).trans hb) hcl) hlane hI.fzb (fun i hi => q7 _ (by omega)) hKp hK4 q1 hI.fzc hobx q2 (by rw [q3, zi19]; omega) (by omega) q4 (by omega) (by omega))
   have HI := hide hI
   have HB := hide hB
   have Q1 := hide q1
   have Q2 := hide q2
   have Q3 := hide q3
   have Q4 := hide q4
   have Q5 := hide q5
   have Q6 := hide q6
   have Q7 := hide q7
   have Q8 := hide q8
   clear hI hB q1 q2 q3 q4 q5 q6 q7 q8 hlane hobx hle hle2
   gi_wp2
   refine ⟨trivial, hdd _, ?_⟩
   refine (CallsIn.inRound l (callsIn_wide.2 HS.out)).mono ?_
   rintro e W' ⟨rfl, s⟩
   have HEND : Hid (EI WV cB oB bc gB base K R dt out RL (lnv (pre ++ [⟨x, hx⟩])) W') := by
    have e1 : lnv (pre ++ [⟨x, hx⟩]) = lnv pre ++ [x] := by rw [zl5]; rfl
    show EI _ _ _ _ _ _ _ _ _ _ _ (lnv (pre ++ [⟨x, hx⟩])) _
    rw [e1]
    exact EI.step hKp hx HCG.out HI.out hsz Q3.out Q4.out Q5.out Q6.out Q7.out Q8.out s
   have HBE := hide (HB.out.trans (s.bl (min cB (min base bc)) (by omega) (by omega) (by omega)))
   have HKO : Hid (KeepsOthers W W') := ⟨s.size, fun k o hk ho => by
    have hkl := (Array.getElem?_eq_some_iff.1 hk).1
    refine (s.keep k hkl (fun e => ?_) (fun e => ?_) (fun e => ?_)).trans hk
    ·obtain ⟨ob, w1, w2⟩ := cells_of_cell Q1.out
     rw [e, w1] at hk
     injection hk with hk
     rw [hk, ho] at w2
     cases w2
    ·obtain ⟨ob, w1, w2⟩ := cells_of_cell (Q6.out 0 (by rw [HKQ.out]; exact hRp)).1
     rw [e, w1] at hk
     injection hk with hk
     rw [hk, ho] at w2
     cases w2
    ·rcases Q2.out.2 with ⟨w1, _⟩ | ⟨g', cap'', cur, w1, _, w3, _⟩
     ·rw [w1] at e; simp [Value.ownBlock] at e
     ·rw [w1] at e
      simp only [Value.ownBlock] at e
      injection e with e
      rw [← e, w3] at hk
      injection hk with hk
      rw [← hk] at ho
      simp [Obj.isCells] at ho⟩
   have HKB : Hid (KB (fun k => k = w6.heap.size ∨ k = w6.heap.size + 1) W W') := ⟨s.size, fun k o hk h1 _ => (s.keep k (Array.getElem?_eq_some_iff.1 h1).1 (by rcases hk with rfl | rfl <;> omega) (by rcases hk with rfl | rfl <;> omega) (fun e => by have := Q5.out k e; rcases hk with rfl | rfl <;> omega)).trans h1⟩
   clear s
   gi_wp2
   exact ⟨HKO.out, HKB.out, HEND.out, HBE.out⟩
  case done =>
   rintro D ys W hD hS ⟨hI, hB⟩ hKd
   have hI2 := EI.kept (by rw [HKQ.out]; exact hRp) hI (grownBy_putObj' W D (.deferred none)) (fun r e => by cases e; exact ⟨_, hKd, rfl⟩)
   have hBF : Below (min cB (min base bc)) WV (W.putObj D (.deferred none)) := hB.trans (belowK_b (w := WV) (by omega) W D _ _ (by omega) hKd rfl rfl)
   have HI2 := hide hI2
   have HBF := hide hBF
   clear hI hI2 hB hBF
   gi_wp2
   refine ⟨by simp, .inl ⟨_, _, rfl, run_takeDeferred hKd, ?_⟩⟩
   refine ⟨_, results_none rfl _ _ _, ?_⟩
   have hI2 := HI2.out
   rw [show lnv ys = List.range R from hS] at hI2
   obtain ⟨rv, Zl, f, q1, q2, q3, q4, q5, q6, q7, q8⟩ := hI2.ex
   rw [List.length_range] at q3 q8
   have e := (q8 rfl).2
   rw [List.take_of_length_le (by rw [zd5]; exact Nat.le_refl _)] at e
   rw [q3, HKQ.out, e] at q2
   refine ⟨rfl, rv, q1, q2, fun c ob h1 h2 hb hcl => have hc := (Array.getElem?_eq_some_iff.1 hb).1; hI2.kb c ob h1 (by omega) h2 ((BV.out.block c hc).trans hb) hcl, Nat.le_trans BV.out.size HBF.out.size, fun lo h1 h2 h3 => (Below.mono BV.out h3).trans (Below.mono HBF.out (by omega))⟩
  case stop =>
   rintro D c pre W _ _ h _
   exact h.elim
end
section
open Go.ChangeShapes Go.RowKit Go.Shelf FL
attribute [local go_sem] Oper.semAt_some
structure HbX (w : World) (A B : List Value) (hv ov : Value) (W : World) : Prop where
 a : ∀ j x, A[j]? = some x → W.cell? ⟨w.heap.size, j, none⟩ = some x
 h : W.cell? ⟨w.heap.size + 1, 0, none⟩ = some hv
 g : ∀ j x, B[j]? = some x → W.cell? ⟨w.heap.size + 2, j, none⟩ = some x
 o : W.cell? ⟨w.heap.size + 3, 0, none⟩ = some ov
 r : W.cell? ⟨w.heap.size + 4, 0, none⟩ = some (σ none 0 0)
 bl : Bel w W
 sz : w.heap.size + 5 ≤ W.heap.size
theorem HbX.keep {w : World} {A B : List Value} {hv ov : Value} {W W' : World} (h : HbX w A B hv ov W) (x : Bel W W') : HbX w A B hv ov W' :=
 ⟨fun j y hy => Bel.box x (h.a j y hy), Bel.box x h.h, fun j y hy => Bel.box x (h.g j y hy), Bel.box x h.o, Bel.box x h.r, Bel.tr h.bl x, Nat.le_trans h.sz x.size⟩
theorem HbX.start (w : World) (A B : List Value) (hv ov : Value) : HbX w A B hv ov (((((w.alloc (.cells A.toArray 85)).alloc (χ #[hv] 34)).alloc (.cells B.toArray 85)).alloc (χ #[ov] 113)).alloc (χ #[σ none 0 0] 34)) ∧ Ext w (((((w.alloc (.cells A.toArray 85)).alloc (χ #[hv] 34)).alloc (.cells B.toArray 85)).alloc (χ #[ov] 113)).alloc (χ #[σ none 0 0] 34)) := by
 have e0 := (((((Ext.refl w).alloc A.toArray 85).alloc #[hv] 34).alloc B.toArray 85).alloc #[ov] 113).alloc #[σ none 0 0] 34
 have e1 := ((((Ext.refl (w.alloc (.cells A.toArray 85))).alloc #[hv] 34).alloc B.toArray 85).alloc #[ov] 113).alloc #[σ none 0 0] 34
 have e2 := (((Ext.refl ((w.alloc (.cells A.toArray 85)).alloc (χ #[hv] 34))).alloc B.toArray 85).alloc #[ov] 113).alloc #[σ none 0 0] 34
 have e3 := ((Ext.refl (((w.alloc (.cells A.toArray 85)).alloc (χ #[hv] 34)).alloc (.cells B.toArray 85))).alloc #[ov] 113).alloc #[σ none 0 0] 34
 have e4 := (Ext.refl ((((w.alloc (.cells A.toArray 85)).alloc (χ #[hv] 34)).alloc (.cells B.toArray 85)).alloc (χ #[ov] 113))).alloc #[σ none 0 0] 34
 exact ⟨⟨fun j x hx => e1.box ((zd w A.toArray 85 _ rfl j).trans (by simpa using hx)), e2.box (zd _ #[hv] 34 (w.heap.size + 1) (by simp) 0), fun j x hx => e3.box ((zd _ B.toArray 85 (w.heap.size + 2) (by simp) j).trans (by simpa using hx)), e4.box (zd _ #[ov] 113 (w.heap.size + 3) (by simp) 0), zd _ #[σ none 0 0] 34 (w.heap.size + 4) (by simp) 0, e0.bl, by simp⟩, e0⟩
theorem HbX.kp {w : World} {A B : List Value} {hv ov : Value} {W W' : World} {cB gB : Nat} (h : HbX w A B hv ov W) (k : KpO W cB gB W') (h1 : w.heap.size + 5 ≤ cB) (h2 : w.heap.size + 5 ≤ gB) (hs : W.heap.size ≤ W'.heap.size) (b : Below w.heap.size W W') : HbX w A B hv ov W' := by
 have hz := h.sz
 exact ⟨fun j y hy => k.cell (by omega) (by omega) (h.a j y hy), k.cell (by omega) (by omega) h.h, fun j y hy => k.cell (by omega) (by omega) (h.g j y hy), k.cell (by omega) (by omega) h.o, k.cell (by omega) (by omega) h.r, Below.trans h.bl b, by omega⟩
def HbOk (w : World) (ss : List St) (m : Nat) (L : List Int) (Y : List C3) (e : Ending) (w' : World) : Prop := ∃ g cb, e = .returned (γ #[σ (some ⟨g, 0, none⟩) ss.length ss.length]) ∧ HOwn w' w.heap.size g cb (putT ss m L Y L.length) ∧ Bel w w'
theorem zy7 (n : Nat) (hn : 8 ≤ n) (xs sv svg : List Int) (off offg stg dtg fr to : Int) (m ax K : Nat) (u : Value) {w : World} {v : Value} {ss : List St} {su : Option Addr} {cu gf : Nat} {cb : Array Value} {cs Y : List C3} {dt : Int} {out : (Nat → C3) → Nat → C3} (h : SV w v ss) (hl : SL ss 1048576) (hm : m < ss.length) (hv : ValidV xs sv off) (hin : ∀ p ∈ offsL xs sv off, p < ((ss.getD m s0).2.length : Int))
  (hcs : CV w (σ su cs.length cu) cs) (hlc : cs.length ≤ 1048576) (hvg : ValidV xs svg offg) (hing : ∀ p ∈ offsL xs svg offg, p < (cs.length : Int)) (hax : ax < xs.length) (hKx : xs.getD ax 0 = (K : Int)) (hokc : ∀ p ∈ offsL xs svg offg, OkC dt (cs.getD p.toNat k0))
  (eg : ∀ args w, (callFunc gf args).run Tryz.prog w = .ok (.enter gf args) w) (hcong : ∀ f g : Nat → C3, (∀ i, i < K → f i = g i) → ∀ i, i < K → out f i = out g i) (hof : ∀ W cB gB bc, Bel w W → w.heap.size ≤ cB → w.heap.size ≤ gB → W.heap.size ≤ bc → OfK gf cb bc K dt out (KpO W cB gB))
  (hcv : ∀ j, j < plen (xs.eraseIdx ax) * K → ∀ W, Calls Tryz.prog 125 #[O ι fr, O ι to, cellV ((ZL out ((offsL (mvL ax xs) (mvL ax svg) offg).map fun p => cs.getD p.toNat k0) K (plen (xs.eraseIdx ax))).getD j k0)] W fun e W' => e = .returned (cellV (Y.getD j k0)) ∧ Ext W W') :
  CallsIn Fence.wide n Tryz.prog 58 #[γ #[O ι xs.length, O ι (xs.getD 0 0), O ι (xs.getD 1 0), O ι (xs.getD 2 0), O ι (xs.getD 3 0), O ι (sv.getD 0 0), O ι (sv.getD 1 0), O ι (sv.getD 2 0), O ι (sv.getD 3 0), O ι off, O ι m, O ι to, u], γ #[v], O ι fr, γ #[O ι xs.length, O ι (xs.getD 0 0), O ι (xs.getD 1 0), O ι (xs.getD 2 0), O ι (xs.getD 3 0), O ι (svg.getD 0 0), O ι (svg.getD 1 0), O ι (svg.getD 2 0), O ι (svg.getD 3 0), O ι offg, O ι stg, O ι dtg, σ su cs.length cu], O ι ax, .func (.func gf) #[] cb] w fun e w' => HbOk w ss m (offsL (mvL ax xs) (mvL ax sv) off) Y e w' := by
 have hdd : ∀ k : Nat, (Fence.wide.depth.isSome = true → 1 ≤ k) := fun k h => by cases h
 obtain ⟨sa, cap, rfl, hsx⟩ := h
 have h : SV w (σ sa ss.length cap) ss := ⟨sa, cap, rfl, hsx⟩
 have hx4 := hv.1.1
 have hnn : ∀ m ∈ xs, 0 ≤ m := fun m hm => (zy hv.1 m hm).1
 have hpp := zw hnn
 have hRK : plen xs = plen (xs.eraseIdx ax) * K := by rw [zt2 ax xs hax, hKx]; rfl
 have hR4 : plen (xs.eraseIdx ax) * K ≤ 4096 := by have := hv.1.2.2; omega
 have hcnt := hide (fun W => zp2 W xs hv.1.1 hv.1.2.1)
 unfold shp at hcnt
 rw [hpp, hRK] at hcnt
 have hvm := zr9 hv hax
 have hlx : (mvL ax xs).length = xs.length := zr3 hax
 have hol : (offsL (mvL ax xs) (mvL ax sv) off).length = plen (xs.eraseIdx ax) * K := by rw [(zx6 hv hax).1, zx hv]; omega
 have hal := hide (fun W => zf9 W xs sv off ax hax hx4 hv.2.1)
 unfold vw at hal
 rw [hlx] at hal
 obtain ⟨Z, hZ⟩ : ∃ Z, Z = ZL out ((offsL (mvL ax xs) (mvL ax svg) offg).map fun p => cs.getD p.toNat k0) K (plen (xs.eraseIdx ax)) := ⟨_, rfl⟩
 have hZl : Z.length = plen (xs.eraseIdx ax) * K := by rw [hZ, zd5]
 have hel := hide (fun (W : World) (x : Bel w W) cB gB cap0 base (h1 : W.cell? ⟨cB, 0, none⟩ = some (σ (some ⟨gB, 0, none⟩) 0 cap0)) (h2 : W.frozen? ⟨cB, 0, none⟩ = false) (h3 : W.ownsRow base 66 3 (σ (some ⟨gB, 0, none⟩) 0 cap0) 0 []) (h4 : gB ≠ cB) oB (h5 : gB ≠ oB) (h6 : W.cell? ⟨oB, 0, none⟩ = some (.func (.func gf) #[] cb)) (h7 : oB ≠ cB) (h8 : w.heap.size ≤ cB) (h9 : w.heap.size ≤ gB) => zb12 (n - 1) (by omega) xs svg offg stg dtg ax K (dt := dt) (out := out) (hcs.keep x) hlc hvg hing hax hKx hokc h1 h2 h3 h4 h5 h6 h7 eg hcong (fun bc hb => hof W cB gB bc x h8 h9 hb))
 rw [← hZ] at hel hcv
 have hw2 := hide (fun (W : World) (x : Bel w W) sx cx (hX : CV W (σ sx Z.length cx) Z) => zs11 (n - 1) (by omega) (mvL ax xs) (mvL ax sv) off m u (Y := Y) (fr := fr) (to := to) (h.keep x) hl hm hvm (zu23 hv hax hin) hX (fun j hj => hcv j (by rw [← hZl]; exact hj)) (by rw [hol, hZl]; exact Nat.le_refl _) (by rw [hZl]; exact hR4))
 rw [hlx] at hw2
 have HOL := hide hol
 clear hZ hcs hvg hing hokc hcong hof hcv hin hvm hlx hnn hpp hRK hol hKx hv h hsx
 generalize plen (xs.eraseIdx ax) * K = KQ at *
 generalize offsL (mvL ax xs) (mvL ax sv) off = OL at *
 generalize xs.getD 0 0 = a0 at *
 generalize xs.getD 1 0 = a1 at *
 generalize xs.getD 2 0 = a2 at *
 generalize xs.getD 3 0 = a3 at *
 generalize sv.getD 0 0 = s0 at *
 generalize sv.getD 1 0 = s1 at *
 generalize sv.getD 2 0 = s2 at *
 generalize sv.getD 3 0 = s3 at *
 generalize svg.getD 0 0 = t0 at *
 generalize svg.getD 1 0 = t1 at *
 generalize svg.getD 2 0 = t2 at *
 generalize svg.getD 3 0 = t3 at *
 generalize (mvL ax xs).getD 0 0 = m0 at *
 generalize (mvL ax xs).getD 1 0 = m1 at *
 generalize (mvL ax xs).getD 2 0 = m2 at *
 generalize (mvL ax xs).getD 3 0 = m3 at *
 generalize (mvL ax sv).getD 0 0 = r0 at *
 generalize (mvL ax sv).getD 1 0 = r1 at *
 generalize (mvL ax sv).getD 2 0 = r2 at *
 generalize (mvL ax sv).getD 3 0 = r3 at *
 obtain ⟨HB0, X0⟩ := HbX.start w [O ι xs.length, O ι a0, O ι a1, O ι a2, O ι a3, O ι s0, O ι s1, O ι s2, O ι s3, O ι off, O ι m, O ι to, u] [O ι xs.length, O ι a0, O ι a1, O ι a2, O ι a3, O ι t0, O ι t1, O ι t2, O ι t3, O ι offg, O ι stg, O ι dtg, σ su cs.length cu] (σ sa ss.length cap) (.func (.func gf) #[] cb)
 have HB0 := hide HB0
 have X0 := hide X0
 have c0 := HB0.out.a 0 _ rfl
 have c1 := HB0.out.a 1 _ rfl
 have c2 := HB0.out.a 2 _ rfl
 have c3 := HB0.out.a 3 _ rfl
 have c4 := HB0.out.a 4 _ rfl
 have hmk := fun W => zt8 W KQ (Int.natCast_nonneg _) (by omega)
 refine callsIn_of_wp Tryz.func58 rfl trivial ?_ rfl
 simp only [Tryz.ntmps58, List.size_toArray, List.length_cons, List.length_nil, Nat.reduceAdd, Nat.reduceSub, Array.replicate_succ, Array.replicate_zero, List.push_toArray, List.append_toArray, List.nil_append, List.cons_append]
 gi_wp2
 refine ⟨trivial, hdd _, ?_⟩
 refine (callsIn_wide.2 (hcnt.out _)).mono ?_
 rintro e w3 ⟨rfl, hw3⟩
 have x3 : Ext (((((w.alloc (χ #[O ι xs.length, O ι a0, O ι a1, O ι a2, O ι a3, O ι s0, O ι s1, O ι s2, O ι s3, O ι off, O ι m, O ι to, u] 85)).alloc (χ #[σ sa ss.length cap] 34)).alloc (χ #[O ι xs.length, O ι a0, O ι a1, O ι a2, O ι a3, O ι t0, O ι t1, O ι t2, O ι t3, O ι offg, O ι stg, O ι dtg, σ su cs.length cu] 85)).alloc (χ #[.func (.func gf) #[] cb] 113)).alloc (χ #[σ none 0 0] 34)) w3 := by rw [hw3]; exact (Ext.refl _).alloc _ _
 have HB3 := hide (HB0.out.keep x3.bl)
 have X3 := hide (X0.out.trans x3)
 clear hw3 x3 hcnt HB0 c0 c1 c2 c3 c4 X0
 have x8 : Ext w3 ((w3.alloc (χ (madeCells #[O ι 0, .float .f64 0, .float .f64 0] (KQ * 3)) 66)).alloc (χ #[σ (some ⟨w3.heap.size, 0, none⟩) 0 KQ] 61)) := ((Ext.refl w3).alloc _ _).alloc _ _
 have x8b : Ext (w3.alloc (χ (madeCells #[O ι 0, .float .f64 0, .float .f64 0] (KQ * 3)) 66)) ((w3.alloc (χ (madeCells #[O ι 0, .float .f64 0, .float .f64 0] (KQ * 3)) 66)).alloc (χ #[σ (some ⟨w3.heap.size, 0, none⟩) 0 KQ] 61)) := (Ext.refl _).alloc _ _
 have HB8 := hide (HB3.out.keep x8.bl)
 have hb3 := HB3.out.sz
 have hc8 : (((w3.alloc (χ (madeCells #[O ι 0, .float .f64 0, .float .f64 0] (KQ * 3)) 66)).alloc (χ #[σ (some ⟨w3.heap.size, 0, none⟩) 0 KQ] 61))).cell? ⟨w3.heap.size + 1, 0, none⟩ = some (σ (some ⟨w3.heap.size, 0, none⟩) 0 KQ) := zd (w3.alloc (χ (madeCells #[O ι 0, .float .f64 0, .float .f64 0] (KQ * 3)) 66)) #[σ (some ⟨w3.heap.size, 0, none⟩) 0 KQ] 61 (w3.heap.size + 1) (by simp) 0
 have ho8 : (((w3.alloc (χ (madeCells #[O ι 0, .float .f64 0, .float .f64 0] (KQ * 3)) 66)).alloc (χ #[σ (some ⟨w3.heap.size, 0, none⟩) 0 KQ] 61))).ownsRow w3.heap.size 66 3 (σ (some ⟨w3.heap.size, 0, none⟩) 0 KQ) 0 [] := zk3 (World.ownsRow_made (base := w3.heap.size) (e := 66) (size := 3) w3 (madeCells #[O ι 0, .float .f64 0, .float .f64 0] (KQ * 3)) KQ (Nat.le_refl _) (by unfold maxLen; omega) (by simp [madeCells])) x8b.bl
 have HE := hide (hel.out ((w3.alloc (χ (madeCells #[O ι 0, .float .f64 0, .float .f64 0] (KQ * 3)) 66)).alloc (χ #[σ (some ⟨w3.heap.size, 0, none⟩) 0 KQ] 61)) HB8.out.bl (w3.heap.size + 1) w3.heap.size KQ w3.heap.size hc8 (x8.unfrozen (by omega) 0) ho8 (by omega) (w.heap.size + 1 + 1 + 1) (by omega) HB8.out.o (by omega) (by omega) (by omega))
 have hs8 : (((w3.alloc (χ (madeCells #[O ι 0, .float .f64 0, .float .f64 0] (KQ * 3)) 66)).alloc (χ #[σ (some ⟨w3.heap.size, 0, none⟩) 0 KQ] 61))).heap.size = w3.heap.size + 2 := by simp
 have g0 := HB8.out.g 0 _ rfl
 have g1 := HB8.out.g 1 _ rfl
 have g2 := HB8.out.g 2 _ rfl
 have g3 := HB8.out.g 3 _ rfl
 have g4 := HB8.out.g 4 _ rfl
 have g5 := HB8.out.g 5 _ rfl
 have g6 := HB8.out.g 6 _ rfl
 have g7 := HB8.out.g 7 _ rfl
 have g8 := HB8.out.g 8 _ rfl
 have g9 := HB8.out.g 9 _ rfl
 have g10 := HB8.out.g 10 _ rfl
 have g11 := HB8.out.g 11 _ rfl
 have g12 := HB8.out.g 12 _ rfl
 have X8 := hide (X3.out.trans x8)
 clear x8 x8b hc8 ho8 hel HB3 X3
 gi_wp2
 refine ⟨trivial, hdd _, ?_⟩
 refine HE.out.mono ?_
 rintro e w9 ⟨rfl, rv, hrv, hown, hkp, hsz9, hbl9⟩
 have HB9 := hide (HB8.out.kp hkp (by omega) (by omega) hsz9 (hbl9 w.heap.size (by omega) (by omega) (by omega)))
 have hf9 : ∀ c, c = w.heap.size ∨ c = w.heap.size + 1 + 1 + 1 + 1 → ∀ q, w9.frozen? ⟨c, q, none⟩ = false := fun c hc q => by
  rcases hc with rfl | rfl
  ·exact (hkp.frozen (by omega) (by omega) (HB8.out.a 0 _ rfl) q).trans (X8.out.unfrozen (Nat.le_refl _) q)
  ·exact (hkp.frozen (by omega) (by omega) HB8.out.r q).trans (X8.out.unfrozen (by omega) q)
 have HF9 := hide hf9
 obtain ⟨sx, cx, rfl, hox⟩ := zq4 (lo := w3.heap.size) (Nat.le_refl _) (by rw [← hZl] at hown; exact hown)
 have hnb : Hid ((∃ o' c', (Value.slice sx Z.length cx) = σ (some ⟨w.heap.size, o', none⟩) Z.length c') → 0 < Z.length → False) := fun ⟨o', c', e⟩ hz => by
  rcases hox with z | ⟨g, q1, q2, q3, q4⟩
  ·rw [z] at hz; simp at hz
  ·injection e with e1 e2 e3
   rw [q1] at e1
   injection e1 with e1
   injection e1 with e1
   omega
 have HRV := hide hrv
 have HOX : Hid (CV w9 (σ sx Z.length cx) Z) := ⟨_, _, rfl, hox.imp id fun ⟨g, q1, q2, q3, q4⟩ => ⟨g, 0, q1, q3⟩⟩
 clear hrv hown hkp hbl9 hox HE HB8 hf9 X8 g0 g1 g2 g3 g4 g5 g6 g7 g8 g9 g10 g11 g12
 have c0 := HB9.out.a 0 _ rfl
 have c1 := HB9.out.a 1 _ rfl
 have c2 := HB9.out.a 2 _ rfl
 have c3 := HB9.out.a 3 _ rfl
 have c4 := HB9.out.a 4 _ rfl
 have c5 := HB9.out.a 5 _ rfl
 have c6 := HB9.out.a 6 _ rfl
 have c7 := HB9.out.a 7 _ rfl
 have c8 := HB9.out.a 8 _ rfl
 have c9 := HB9.out.a 9 _ rfl
 have c10 := HB9.out.a 10 _ rfl
 have c11 := HB9.out.a 11 _ rfl
 have c12 := HB9.out.a 12 _ rfl
 gi_wp2
 refine ⟨trivial, hdd _, ?_⟩
 refine (callsIn_wide.2 (hal.out w9)).mono ?_
 rintro e w10 ⟨rfl, x10⟩
 have HB10 := hide (HB9.out.keep x10.bl)
 have HRV10 := hide (x10.box HRV.out)
 have HOX10 := hide (HOX.out.keep x10.bl)
 have hs10 := x10.bl.size
 have HXF : Hid (∀ q, w10.frozen? ⟨w.heap.size, q, none⟩ = false) := fun q => (x10.fz _).trans (HF9.out _ (Or.inl rfl) q)
 have HXR : Hid (w10.frozen? ⟨w.heap.size + 1 + 1 + 1 + 1, 0, none⟩ = false) := (x10.fz _).trans (HF9.out _ (Or.inr rfl) 0)
 clear x10 hal HB9 HRV HOX c0 c1 c2 c3 c4 c5 c6 c7 c8 c9 c10 c11 c12
 have c0 := HB10.out.a 0 _ rfl
 have c1 := HB10.out.a 1 _ rfl
 have c2 := HB10.out.a 2 _ rfl
 have c3 := HB10.out.a 3 _ rfl
 have c4 := HB10.out.a 4 _ rfl
 have c5 := HB10.out.a 5 _ rfl
 have c6 := HB10.out.a 6 _ rfl
 have c7 := HB10.out.a 7 _ rfl
 have c8 := HB10.out.a 8 _ rfl
 have c9 := HB10.out.a 9 _ rfl
 have c10 := HB10.out.a 10 _ rfl
 have c11 := HB10.out.a 11 _ rfl
 have c12 := HB10.out.a 12 _ rfl
 have f0 := HXF.out 0
 have f1 := HXF.out 1
 have f2 := HXF.out 2
 have f3 := HXF.out 3
 have f4 := HXF.out 4
 have f5 := HXF.out 5
 have f6 := HXF.out 6
 have f7 := HXF.out 7
 have f8 := HXF.out 8
 have f9 := HXF.out 9
 have HST : Hid (MuB w.heap.size w10 ((((((((((w10.setCell ⟨w.heap.size, 0, none⟩ (O ι xs.length)).setCell ⟨w.heap.size, 1, none⟩ (O ι m0)).setCell ⟨w.heap.size, 2, none⟩ (O ι m1)).setCell ⟨w.heap.size, 3, none⟩ (O ι m2)).setCell ⟨w.heap.size, 4, none⟩ (O ι m3)).setCell ⟨w.heap.size, 5, none⟩ (O ι r0)).setCell ⟨w.heap.size, 6, none⟩ (O ι r1)).setCell ⟨w.heap.size, 7, none⟩ (O ι r2)).setCell ⟨w.heap.size, 8, none⟩ (O ι r3)).setCell ⟨w.heap.size, 9, none⟩ (O ι off))) := zp22 w10 w.heap.size 0 [O ι xs.length, O ι m0, O ι m1, O ι m2, O ι m3, O ι r0, O ι r1, O ι r2, O ι r3, O ι off]
 have HSC : Hid (∀ q v, [O ι xs.length, O ι m0, O ι m1, O ι m2, O ι m3, O ι r0, O ι r1, O ι r2, O ι r3, O ι off][q]? = some v → (((((((((((w10.setCell ⟨w.heap.size, 0, none⟩ (O ι xs.length)).setCell ⟨w.heap.size, 1, none⟩ (O ι m0)).setCell ⟨w.heap.size, 2, none⟩ (O ι m1)).setCell ⟨w.heap.size, 3, none⟩ (O ι m2)).setCell ⟨w.heap.size, 4, none⟩ (O ι m3)).setCell ⟨w.heap.size, 5, none⟩ (O ι r0)).setCell ⟨w.heap.size, 6, none⟩ (O ι r1)).setCell ⟨w.heap.size, 7, none⟩ (O ι r2)).setCell ⟨w.heap.size, 8, none⟩ (O ι r3)).setCell ⟨w.heap.size, 9, none⟩ (O ι off))).cell? ⟨w.heap.size, q, none⟩ = some v) := fun q v hq => by
  have := zc15 w10 w.heap.size 0 [O ι xs.length, O ι m0, O ι m1, O ι m2, O ι m3, O ι r0, O ι r1, O ι r2, O ι r3, O ι off] (fun q _ h2 => by
   simp only [List.length_cons, List.length_nil] at h2
   rcases (show q = 0 ∨ q = 1 ∨ q = 2 ∨ q = 3 ∨ q = 4 ∨ q = 5 ∨ q = 6 ∨ q = 7 ∨ q = 8 ∨ q = 9 by omega) with rfl | rfl | rfl | rfl | rfl | rfl | rfl | rfl | rfl | rfl
   ·exact ⟨_, c0⟩
   ·exact ⟨_, c1⟩
   ·exact ⟨_, c2⟩
   ·exact ⟨_, c3⟩
   ·exact ⟨_, c4⟩
   ·exact ⟨_, c5⟩
   ·exact ⟨_, c6⟩
   ·exact ⟨_, c7⟩
   ·exact ⟨_, c8⟩
   ·exact ⟨_, c9⟩) q v hq
  rw [Nat.zero_add] at this
  exact this
 have HSL : Hid (∀ q, 10 ≤ q → (((((((((((w10.setCell ⟨w.heap.size, 0, none⟩ (O ι xs.length)).setCell ⟨w.heap.size, 1, none⟩ (O ι m0)).setCell ⟨w.heap.size, 2, none⟩ (O ι m1)).setCell ⟨w.heap.size, 3, none⟩ (O ι m2)).setCell ⟨w.heap.size, 4, none⟩ (O ι m3)).setCell ⟨w.heap.size, 5, none⟩ (O ι r0)).setCell ⟨w.heap.size, 6, none⟩ (O ι r1)).setCell ⟨w.heap.size, 7, none⟩ (O ι r2)).setCell ⟨w.heap.size, 8, none⟩ (O ι r3)).setCell ⟨w.heap.size, 9, none⟩ (O ι off))).cell? ⟨w.heap.size, q, none⟩ = w10.cell? ⟨w.heap.size, q, none⟩) := fun q hq => zb15 w10 w.heap.size 0 [O ι xs.length, O ι m0, O ι m1, O ι m2, O ι m3, O ι r0, O ι r1, O ι r2, O ι r3, O ι off] q hq
 have hh := HST.out.box (by omega) HB10.out.h
 have hcc := HST.out.box (by omega) HRV10.out
 have hrr := HST.out.box (by omega) HB10.out.r
 have hfr := (HST.out.frozen (o := 0) (by omega) (zj HB10.out.r)).trans HXR.out
 gi_wp2
 refine ⟨trivial, hdd _, ?_⟩
 have HCV : Hid (CV ((((((((((w10.setCell ⟨w.heap.size, 0, none⟩ (O ι xs.length)).setCell ⟨w.heap.size, 1, none⟩ (O ι m0)).setCell ⟨w.heap.size, 2, none⟩ (O ι m1)).setCell ⟨w.heap.size, 3, none⟩ (O ι m2)).setCell ⟨w.heap.size, 4, none⟩ (O ι m3)).setCell ⟨w.heap.size, 5, none⟩ (O ι r0)).setCell ⟨w.heap.size, 6, none⟩ (O ι r1)).setCell ⟨w.heap.size, 7, none⟩ (O ι r2)).setCell ⟨w.heap.size, 8, none⟩ (O ι r3)).setCell ⟨w.heap.size, 9, none⟩ (O ι off)) (σ sx Z.length cx) Z) := by
  obtain ⟨s', c', e', hx'⟩ := HOX10.out
  refine ⟨s', c', e', ?_⟩
  rcases hx' with z | ⟨b', o', e2, hr'⟩
  ·exact Or.inl z
  ·rcases Nat.lt_or_ge 0 Z.length with zz | zz
   ·refine Or.inr ⟨b', o', e2, fun j hj => ?_⟩
    have hb' : b' ≠ w.heap.size := fun e => hnb.out (by rw [← e]; exact ⟨o', c', by rw [e2] at e'; exact e'⟩) zz
    exact ⟨HST.out.box hb' (hr' j hj).1, HST.out.box hb' (hr' j hj).2.1, HST.out.box hb' (hr' j hj).2.2⟩
   ·exact Or.inl (List.length_eq_zero_iff.1 (by omega))
 have HBW : Hid (Bel w ((((((((((w10.setCell ⟨w.heap.size, 0, none⟩ (O ι xs.length)).setCell ⟨w.heap.size, 1, none⟩ (O ι m0)).setCell ⟨w.heap.size, 2, none⟩ (O ι m1)).setCell ⟨w.heap.size, 3, none⟩ (O ι m2)).setCell ⟨w.heap.size, 4, none⟩ (O ι m3)).setCell ⟨w.heap.size, 5, none⟩ (O ι r0)).setCell ⟨w.heap.size, 6, none⟩ (O ι r1)).setCell ⟨w.heap.size, 7, none⟩ (O ι r2)).setCell ⟨w.heap.size, 8, none⟩ (O ι r3)).setCell ⟨w.heap.size, 9, none⟩ (O ι off))) := HST.out.below HB10.out.bl (Nat.le_refl _)
 have HW := hide (hw2.out _ HBW.out sx cx HCV.out)
 rw [hZl] at HW
 have hss : w.heap.size + 1 + 1 + 1 + 1 < (((((((((((w10.setCell ⟨w.heap.size, 0, none⟩ (O ι xs.length)).setCell ⟨w.heap.size, 1, none⟩ (O ι m0)).setCell ⟨w.heap.size, 2, none⟩ (O ι m1)).setCell ⟨w.heap.size, 3, none⟩ (O ι m2)).setCell ⟨w.heap.size, 4, none⟩ (O ι m3)).setCell ⟨w.heap.size, 5, none⟩ (O ι r0)).setCell ⟨w.heap.size, 6, none⟩ (O ι r1)).setCell ⟨w.heap.size, 7, none⟩ (O ι r2)).setCell ⟨w.heap.size, 8, none⟩ (O ι r3)).setCell ⟨w.heap.size, 9, none⟩ (O ι off))).heap.size := zj hrr
 clear HST HSC HSL hw2 HCV c0 c1 c2 c3 c4 c5 c6 c7 c8 c9 c10 c11 c12 f0 f1 f2 f3 f4 f5 f6 f7 f8 f9 hh hcc
 generalize ((((((((((w10.setCell ⟨w.heap.size, 0, none⟩ (O ι xs.length)).setCell ⟨w.heap.size, 1, none⟩ (O ι m0)).setCell ⟨w.heap.size, 2, none⟩ (O ι m1)).setCell ⟨w.heap.size, 3, none⟩ (O ι m2)).setCell ⟨w.heap.size, 4, none⟩ (O ι m3)).setCell ⟨w.heap.size, 5, none⟩ (O ι r0)).setCell ⟨w.heap.size, 6, none⟩ (O ι r1)).setCell ⟨w.heap.size, 7, none⟩ (O ι r2)).setCell ⟨w.heap.size, 8, none⟩ (O ι r3)).setCell ⟨w.heap.size, 9, none⟩ (O ι off)) = W11 at HBW HW hss hrr hfr ⊢
 refine HW.out.mono ?_
 rintro e w12 ⟨g, cb', rfl, hO, hB12⟩
 have hr12 := Bel.box hB12 hrr
 have hf12 := (Below.frozen hB12 (p := ⟨w.heap.size + 1 + 1 + 1 + 1, 0, none⟩) hss).trans hfr
 have HO12 := hide hO
 have HB12 := hide (Bel.tr HBW.out hB12)
 clear hO hB12 HW hZl hs8 hs10 hsz9 hmk hrr hfr hR4 eg
 gi_wp2
 refine bodyPost_ret (v := γ #[σ (some ⟨g, 0, none⟩) ss.length ss.length]) (by simp [results, Tryz.results58, go_sem, hr12]) rfl ⟨g, cb', rfl, ?_, HB12.out.setCell (p := ⟨w.heap.size + 1 + 1 + 1 + 1, 0, none⟩) (by show _ ≤ w.heap.size + 1 + 1 + 1 + 1; omega) _⟩
 exact (HOwn.far HO12.out (by have := HO12.out.lo_g; omega) (fun j hj hne => by have a1 := HO12.out.g_cb j hj hne; have a2 := HO12.out.lo_g; omega)).lower (by omega)
end
section
open Go.ChangeShapes Go.RowKit Go.Shelf FL
theorem zu7 (xs sv : List Int) (off st dt fr : Int) (u : Value) (hv : ValidV xs sv off) (w : World) :
  Calls Tryz.prog 38 #[γ #[O ι xs.length, O ι (xs.getD 0 0), O ι (xs.getD 1 0), O ι (xs.getD 2 0), O ι (xs.getD 3 0), O ι (sv.getD 0 0), O ι (sv.getD 1 0), O ι (sv.getD 2 0), O ι (sv.getD 3 0), O ι off, O ι st, O ι dt, u], O ι fr] w fun e w' => e = .returned (O ι (wrC (decide (offsL xs sv off).Nodup) (castL fr dt 1))) ∧ Bel w w' := by
 have hd := hide (fun W => zu17 hv W)
 generalize decide (offsL xs sv off).Nodup = nd at hd ⊢
 unfold vw at hd
 clear hv
 generalize xs.getD 0 0 = a0 at *
 generalize xs.getD 1 0 = a1 at *
 generalize xs.getD 2 0 = a2 at *
 generalize xs.getD 3 0 = a3 at *
 generalize sv.getD 0 0 = b0 at *
 generalize sv.getD 1 0 = b1 at *
 generalize sv.getD 2 0 = b2 at *
 generalize sv.getD 3 0 = b3 at *
 have x0 : Ext w (w.alloc (χ #[O ι xs.length, O ι a0, O ι a1, O ι a2, O ι a3, O ι b0, O ι b1, O ι b2, O ι b3, O ι off, O ι st, O ι dt, u] 85)) := (Ext.refl w).alloc _ _
 have n0 := fun j => zd w #[O ι xs.length, O ι a0, O ι a1, O ι a2, O ι a3, O ι b0, O ι b1, O ι b2, O ι b3, O ι off, O ι st, O ι dt, u] 85 w.heap.size rfl j
 have HS : Hid (∀ W', Bel (w.alloc (χ #[O ι xs.length, O ι a0, O ι a1, O ι a2, O ι a3, O ι b0, O ι b1, O ι b2, O ι b3, O ι off, O ι st, O ι dt, u] 85)) W' → (fun w' => w'.cell? ⟨w.heap.size, 0, none⟩ = some (O ι xs.length) ∧ w'.cell? ⟨w.heap.size, 1, none⟩ = some (O ι a0) ∧ w'.cell? ⟨w.heap.size, 2, none⟩ = some (O ι a1) ∧ w'.cell? ⟨w.heap.size, 3, none⟩ = some (O ι a2) ∧ w'.cell? ⟨w.heap.size, 4, none⟩ = some (O ι a3) ∧ w'.cell? ⟨w.heap.size, 5, none⟩ = some (O ι b0) ∧ w'.cell? ⟨w.heap.size, 6, none⟩ = some (O ι b1) ∧ w'.cell? ⟨w.heap.size, 7, none⟩ = some (O ι b2) ∧ w'.cell? ⟨w.heap.size, 8, none⟩ = some (O ι b3) ∧ w'.cell? ⟨w.heap.size, 9, none⟩ = some (O ι off) ∧ w'.cell? ⟨w.heap.size, 11, none⟩ = some (O ι dt)) W') := fun W' h => ⟨Bel.box h (n0 0), Bel.box h (n0 1), Bel.box h (n0 2), Bel.box h (n0 3), Bel.box h (n0 4), Bel.box h (n0 5), Bel.box h (n0 6), Bel.box h (n0 7), Bel.box h (n0 8), Bel.box h (n0 9), Bel.box h (n0 11)⟩
 have X0 := hide x0.bl
 clear x0 n0
 generalize hcc : castL fr dt 1 = cc
 have Hcc := hide hcc
 clear hcc
 cases nd <;> cases cc
 ·go_enter Tryz.func38, Tryz.ntmps38
  go_wp2_with fail
  generalize w.alloc (χ #[O ι xs.length, O ι a0, O ι a1, O ι a2, O ι a3, O ι b0, O ι b1, O ι b2, O ι b3, O ι off, O ι st, O ι dt, u] 85) = W1 at HS X0 ⊢
  have HB0 : Hid (Bel W1 W1.drew) := (Below.refl _ _).drew
  have SA := hide (HS.out W1.drew HB0.out)
  go_region_held3 (fun w' => w'.cell? ⟨w.heap.size, 0, none⟩ = some (O ι xs.length) ∧ w'.cell? ⟨w.heap.size, 1, none⟩ = some (O ι a0) ∧ w'.cell? ⟨w.heap.size, 2, none⟩ = some (O ι a1) ∧ w'.cell? ⟨w.heap.size, 3, none⟩ = some (O ι a2) ∧ w'.cell? ⟨w.heap.size, 4, none⟩ = some (O ι a3) ∧ w'.cell? ⟨w.heap.size, 5, none⟩ = some (O ι b0) ∧ w'.cell? ⟨w.heap.size, 6, none⟩ = some (O ι b1) ∧ w'.cell? ⟨w.heap.size, 7, none⟩ = some (O ι b2) ∧ w'.cell? ⟨w.heap.size, 8, none⟩ = some (O ι b3) ∧ w'.cell? ⟨w.heap.size, 9, none⟩ = some (O ι off) ∧ w'.cell? ⟨w.heap.size, 11, none⟩ = some (O ι dt)) (first | with_reducible exact SA.out | with_reducible exact SB.out | exact SA.out | exact SB.out | exact HS.out _ (HB2.out.alloc HB2.out.size _)) (first | (go_at_call 79; refine (hd.out _).mono ?_; rintro e w2 ⟨rfl, b2⟩; have HB2 := hide (Bel.tr HB0.out b2); have SB := hide (HS.out w2 HB2.out); clear b2) | (go_at_call 37; refine (zv1 _ _ _).mono ?_; rintro e w' ⟨rfl, rfl⟩) | (go_at_call 80; refine (zv2 _ _ _ _).mono ?_; rintro e w' ⟨rfl, rfl⟩; rw [Hcc.out]) | (go_at_call 36; refine (zf2 (xs := [9, 10]) (zz5 _ _ _ _) (by simp)).mono ?_; rintro e w' ⟨rfl, rfl⟩))
  go_wp2
  go_ret
  exact ⟨rfl, Bel.tr X0.out (HB2.out.alloc HB2.out.size _)⟩
 ·go_enter Tryz.func38, Tryz.ntmps38
  go_wp2_with fail
  generalize w.alloc (χ #[O ι xs.length, O ι a0, O ι a1, O ι a2, O ι a3, O ι b0, O ι b1, O ι b2, O ι b3, O ι off, O ι st, O ι dt, u] 85) = W1 at HS X0 ⊢
  have HB0 : Hid (Bel W1 W1.drew) := (Below.refl _ _).drew
  have SA := hide (HS.out W1.drew HB0.out)
  go_region_held3 (fun w' => w'.cell? ⟨w.heap.size, 0, none⟩ = some (O ι xs.length) ∧ w'.cell? ⟨w.heap.size, 1, none⟩ = some (O ι a0) ∧ w'.cell? ⟨w.heap.size, 2, none⟩ = some (O ι a1) ∧ w'.cell? ⟨w.heap.size, 3, none⟩ = some (O ι a2) ∧ w'.cell? ⟨w.heap.size, 4, none⟩ = some (O ι a3) ∧ w'.cell? ⟨w.heap.size, 5, none⟩ = some (O ι b0) ∧ w'.cell? ⟨w.heap.size, 6, none⟩ = some (O ι b1) ∧ w'.cell? ⟨w.heap.size, 7, none⟩ = some (O ι b2) ∧ w'.cell? ⟨w.heap.size, 8, none⟩ = some (O ι b3) ∧ w'.cell? ⟨w.heap.size, 9, none⟩ = some (O ι off) ∧ w'.cell? ⟨w.heap.size, 11, none⟩ = some (O ι dt)) (first | with_reducible exact SA.out | with_reducible exact SB.out | exact SA.out | exact SB.out | exact HS.out _ (HB2.out.alloc HB2.out.size _)) (first | (go_at_call 79; refine (hd.out _).mono ?_; rintro e w2 ⟨rfl, b2⟩; have HB2 := hide (Bel.tr HB0.out b2); have SB := hide (HS.out w2 HB2.out); clear b2) | (go_at_call 37; refine (zv1 _ _ _).mono ?_; rintro e w' ⟨rfl, rfl⟩) | (go_at_call 80; refine (zv2 _ _ _ _).mono ?_; rintro e w' ⟨rfl, rfl⟩; rw [Hcc.out]) | (go_at_call 36; refine (zf2 (xs := [9, 0]) (zz5 _ _ _ _) (by simp)).mono ?_; rintro e w' ⟨rfl, rfl⟩))
  go_wp2
  go_ret
  exact ⟨rfl, Bel.tr X0.out (HB2.out.alloc HB2.out.size _)⟩
 ·go_enter Tryz.func38, Tryz.ntmps38
  go_wp2_with fail
  generalize w.alloc (χ #[O ι xs.length, O ι a0, O ι a1, O ι a2, O ι a3, O ι b0, O ι b1, O ι b2, O ι b3, O ι off, O ι st, O ι dt, u] 85) = W1 at HS X0 ⊢
  have HB0 : Hid (Bel W1 W1.drew) := (Below.refl _ _).drew
  have SA := hide (HS.out W1.drew HB0.out)
  go_region_held3 (fun w' => w'.cell? ⟨w.heap.size, 0, none⟩ = some (O ι xs.length) ∧ w'.cell? ⟨w.heap.size, 1, none⟩ = some (O ι a0) ∧ w'.cell? ⟨w.heap.size, 2, none⟩ = some (O ι a1) ∧ w'.cell? ⟨w.heap.size, 3, none⟩ = some (O ι a2) ∧ w'.cell? ⟨w.heap.size, 4, none⟩ = some (O ι a3) ∧ w'.cell? ⟨w.heap.size, 5, none⟩ = some (O ι b0) ∧ w'.cell? ⟨w.heap.size, 6, none⟩ = some (O ι b1) ∧ w'.cell? ⟨w.heap.size, 7, none⟩ = some (O ι b2) ∧ w'.cell? ⟨w.heap.size, 8, none⟩ = some (O ι b3) ∧ w'.cell? ⟨w.heap.size, 9, none⟩ = some (O ι off) ∧ w'.cell? ⟨w.heap.size, 11, none⟩ = some (O ι dt)) (first | with_reducible exact SA.out | with_reducible exact SB.out | exact SA.out | exact SB.out | exact HS.out _ (HB2.out.alloc HB2.out.size _)) (first | (go_at_call 79; refine (hd.out _).mono ?_; rintro e w2 ⟨rfl, b2⟩; have HB2 := hide (Bel.tr HB0.out b2); have SB := hide (HS.out w2 HB2.out); clear b2) | (go_at_call 37; refine (zv1 _ _ _).mono ?_; rintro e w' ⟨rfl, rfl⟩) | (go_at_call 80; refine (zv2 _ _ _ _).mono ?_; rintro e w' ⟨rfl, rfl⟩; rw [Hcc.out]) | (go_at_call 36; refine (zf2 (xs := [0, 10]) (zz5 _ _ _ _) (by simp)).mono ?_; rintro e w' ⟨rfl, rfl⟩))
  go_wp2
  go_ret
  exact ⟨rfl, Bel.tr X0.out (HB2.out.alloc HB2.out.size _)⟩
 ·go_enter Tryz.func38, Tryz.ntmps38
  go_wp2_with fail
  generalize w.alloc (χ #[O ι xs.length, O ι a0, O ι a1, O ι a2, O ι a3, O ι b0, O ι b1, O ι b2, O ι b3, O ι off, O ι st, O ι dt, u] 85) = W1 at HS X0 ⊢
  have HB0 : Hid (Bel W1 W1.drew) := (Below.refl _ _).drew
  have SA := hide (HS.out W1.drew HB0.out)
  go_region_held3 (fun w' => w'.cell? ⟨w.heap.size, 0, none⟩ = some (O ι xs.length) ∧ w'.cell? ⟨w.heap.size, 1, none⟩ = some (O ι a0) ∧ w'.cell? ⟨w.heap.size, 2, none⟩ = some (O ι a1) ∧ w'.cell? ⟨w.heap.size, 3, none⟩ = some (O ι a2) ∧ w'.cell? ⟨w.heap.size, 4, none⟩ = some (O ι a3) ∧ w'.cell? ⟨w.heap.size, 5, none⟩ = some (O ι b0) ∧ w'.cell? ⟨w.heap.size, 6, none⟩ = some (O ι b1) ∧ w'.cell? ⟨w.heap.size, 7, none⟩ = some (O ι b2) ∧ w'.cell? ⟨w.heap.size, 8, none⟩ = some (O ι b3) ∧ w'.cell? ⟨w.heap.size, 9, none⟩ = some (O ι off) ∧ w'.cell? ⟨w.heap.size, 11, none⟩ = some (O ι dt)) (first | with_reducible exact SA.out | with_reducible exact SB.out | exact SA.out | exact SB.out | exact HS.out _ (HB2.out.alloc HB2.out.size _)) (first | (go_at_call 79; refine (hd.out _).mono ?_; rintro e w2 ⟨rfl, b2⟩; have HB2 := hide (Bel.tr HB0.out b2); have SB := hide (HS.out w2 HB2.out); clear b2) | (go_at_call 37; refine (zv1 _ _ _).mono ?_; rintro e w' ⟨rfl, rfl⟩) | (go_at_call 80; refine (zv2 _ _ _ _).mono ?_; rintro e w' ⟨rfl, rfl⟩; rw [Hcc.out]) | (go_at_call 36; refine (zf2 (xs := [0, 0]) (zz5 _ _ _ _) (by simp)).mono ?_; rintro e w' ⟨rfl, rfl⟩))
  go_wp2
  go_ret
  exact ⟨rfl, Bel.tr X0.out (HB2.out.alloc HB2.out.size _)⟩
def axC (ax : Int) (n : Nat) : Int := if ax < 0 ∨ (n : Int) ≤ ax then 5 else 0
theorem zm12 (xs sv : List Int) (off ax : Int) (w : World) :
  Calls Tryz.prog 56 #[γ (vw xs sv off), O ι ax] w fun e w' => e = .returned (O ι (axC ax xs.length)) ∧ Ext w w' := by
 unfold vw
 generalize xs.getD 0 0 = a0
 generalize xs.getD 1 0 = a1
 generalize xs.getD 2 0 = a2
 generalize xs.getD 3 0 = a3
 generalize sv.getD 0 0 = s0
 generalize sv.getD 1 0 = s1
 generalize sv.getD 2 0 = s2
 generalize sv.getD 3 0 = s3
 have k0' := zd w #[O ι xs.length, O ι a0, O ι a1, O ι a2, O ι a3, O ι s0, O ι s1, O ι s2, O ι s3, O ι off] 83 w.heap.size rfl 0
 simp only [List.getElem?_toArray, List.getElem?_cons_zero] at k0'
 have X0 : Hid (Ext w (w.alloc (χ #[O ι xs.length, O ι a0, O ι a1, O ι a2, O ι a3, O ι s0, O ι s1, O ι s2, O ι s3, O ι off] 83))) := (Ext.refl w).alloc _ _
 by_cases h0 : ax < 0
 ·have hd0 : decide (ax < 0) = true := decide_eq_true h0
  have hc : Hid (axC ax xs.length = 5) := by show _ = _; unfold axC; rw [if_pos (Or.inl h0)]
  go_enter Tryz.func56, Tryz.ntmps56
  go_wp2_with (go_at_call 37; refine (zv1 true 5 _).mono ?_; rintro e w' ⟨rfl, rfl⟩)
  go_ret
  exact ⟨by rw [hc.out]; rfl, X0.out⟩
 ·have hd0 : decide (ax < 0) = false := decide_eq_false h0
  by_cases h1 : (xs.length : Int) ≤ ax
  ·have hd1 : decide ((xs.length : Int) ≤ ax) = true := decide_eq_true h1
   have hc : Hid (axC ax xs.length = 5) := by show _ = _; unfold axC; rw [if_pos (Or.inr h1)]
   go_enter Tryz.func56, Tryz.ntmps56
   go_wp2_with (go_at_call 37; refine (zv1 true 5 _).mono ?_; rintro e w' ⟨rfl, rfl⟩)
   go_ret
   exact ⟨by rw [hc.out]; rfl, X0.out⟩
  ·have hd1 : decide ((xs.length : Int) ≤ ax) = false := decide_eq_false h1
   have hc : Hid (axC ax xs.length = 0) := by show _ = _; unfold axC; rw [if_neg (by omega)]
   go_enter Tryz.func56, Tryz.ntmps56
   go_wp2_with (go_at_call 37; refine (zv1 false 5 _).mono ?_; rintro e w' ⟨rfl, rfl⟩)
   go_ret
   exact ⟨by rw [hc.out]; rfl, X0.out⟩
def srtO (dt : Int) (K : Nat) (f : Nat → C3) (i : Nat) : C3 := f ((ordL f dt K K).getD i 0).toNat
theorem zk15 {dt : Int} {K : Nat} {f g : Nat → C3} (h : ∀ i, i < K → f i = g i) : ordL f dt K K = ordL g dt K K := zw6 (fun i j hi hj => by rw [h i hi, h j hj]) K (Nat.le_refl _)
theorem zh19 {l : List Int} {g : Int → C3} {j : Nat} (hj : j < l.length) : (l.map g).getD j k0 = g (l.getD j 0) := by
 simp [List.getD_eq_getElem?_getD, hj]
section
variable {ss : List St} {a : Ar} {ax : Nat}
theorem zb27 (hga : a.Good ss) (ha : ax < a.xs.length) (hz : prod a.xs ≠ 0) {j : Nat} (hj : j < (a.rd ss).length) : ((offsL (mvL ax a.xs) (mvL ax a.sv) a.off).map fun p => (ss.getD a.st.toNat s0).2.getD p.toNat k0).getD j k0 = (a.rd ss).getD (kapJ ax a.xs j) k0 := by
 have hl : (a.rd ss).length = (offsL a.xs a.sv a.off).length := by unfold Ar.rd readL; rw [List.length_map]
 obtain ⟨m1, m2⟩ := zx6 hga.2.1 ha
 rw [hl] at hj
 have hp : ∀ n ∈ a.xs, 1 ≤ n := fun n hn => (zg1 hga.2.1.1 hz n hn).1
 have hpl := zw (fun n hn => by have := hp n hn; omega : ∀ n ∈ a.xs, 0 ≤ n)
 have hc := zx hga.2.1
 have hk := zj7 hp ha (show j < plen a.xs by omega)
 have q := m2 j hj
 unfold Ar.rd readL
 rw [zh19 (by omega), zh19 (by omega), q]
theorem zc24 (hga : a.Good ss) (ha : ax < a.xs.length) (hz : prod a.xs ≠ 0) {j : Nat} (hj : j < (a.rd ss).length) {m : Nat} (hm : m < (a.xs.getD ax 0).toNat) : ((offsL (mvL ax a.xs) (mvL ax a.sv) a.off).map fun p => (ss.getD a.st.toNat s0).2.getD p.toNat k0).getD (j / (a.xs.getD ax 0).toNat * (a.xs.getD ax 0).toNat + m) k0 = laneC (a.rd ss) a.xs ax (kapJ ax a.xs j) m := by
 have hl : (a.rd ss).length = (offsL a.xs a.sv a.off).length := by unfold Ar.rd readL; rw [List.length_map]
 have hp : ∀ n ∈ a.xs, 1 ≤ n := fun n hn => (zg1 hga.2.1.1 hz n hn).1
 have hpl := zw (fun n hn => by have := hp n hn; omega : ∀ n ∈ a.xs, 0 ≤ n)
 have hc := zx hga.2.1
 have d := zc9 hp ha (show j < plen a.xs by omega)
 have hK := zm20 hp ha
 have hle : (j / (a.xs.getD ax 0).toNat + 1) * (a.xs.getD ax 0).toNat ≤ plen (a.xs.eraseIdx ax) * (a.xs.getD ax 0).toNat := Nat.mul_le_mul_right _ d.1
 rw [Nat.add_mul, Nat.one_mul, ← zt2 ax a.xs ha] at hle
 rw [zb27 hga ha hz (by omega)]
 have e1 : kapJ ax a.xs (j / (a.xs.getD ax 0).toNat * (a.xs.getD ax 0).toNat + m) = kap ax a.xs (j / (a.xs.getD ax 0).toNat) m := by
  unfold kapJ
  rw [Nat.mul_comm, Nat.mul_add_div hK, Nat.div_eq_of_lt hm, Nat.add_zero, Nat.mul_add_mod, Nat.mod_eq_of_lt hm]
 rw [e1]
 unfold laneC kapJ
 rw [zk24 hp ha _ d.2]
theorem zf26 (hga : a.Good ss) (ha : ax < a.xs.length) (hz : prod a.xs ≠ 0) (dt : Int) {j : Nat} (hj : j < (a.rd ss).length) : (ordL (fun m => ((offsL (mvL ax a.xs) (mvL ax a.sv) a.off).map fun p => (ss.getD a.st.toNat s0).2.getD p.toNat k0).getD (j / (a.xs.getD ax 0).toNat * (a.xs.getD ax 0).toNat + m) k0) dt (a.xs.getD ax 0).toNat (a.xs.getD ax 0).toNat).getD (j % (a.xs.getD ax 0).toNat) 0 = ordQ dt (a.rd ss) a.xs ax (kapJ ax a.xs j) := by
 have hl : (a.rd ss).length = (offsL a.xs a.sv a.off).length := by unfold Ar.rd readL; rw [List.length_map]
 have hp : ∀ n ∈ a.xs, 1 ≤ n := fun n hn => (zg1 hga.2.1.1 hz n hn).1
 have hpl := zw (fun n hn => by have := hp n hn; omega : ∀ n ∈ a.xs, 0 ≤ n)
 have hc := zx hga.2.1
 have d := zc9 hp ha (show j < plen a.xs by omega)
 rw [zk15 (g := laneC (a.rd ss) a.xs ax (kapJ ax a.xs j)) (fun m hm => zc24 hga ha hz hj hm)]
 unfold ordQ kapJ
 rw [zp26 hp ha _ d.2, Int.toNat_natCast]
end
end
section
open Go.ChangeShapes Go.RowKit FL
theorem zh17 {W : World} {oB lB DB bc off K i j : Nat} {dt : Int} {f : Nat → C3} {xf xg yf yg : Nat} (hO : W.cell? ⟨oB, 0, none⟩ = some (.func (.func 97) #[] #[π (some ⟨DB, 0, none⟩)])) (hL : W.cell? ⟨lB, 0, none⟩ = some (σ (some ⟨bc, off, none⟩) K K)) (hD : W.cell? ⟨DB, 0, none⟩ = some (O ι dt)) (hf : CF W bc off K f) (hok : ∀ i, i < K → OkC dt (f i)) (hi : i < K) (hj : j < K) :
  Calls Tryz.prog 101 #[γ #[O ι i, .float .f64 xf, .float .f64 xg], γ #[O ι j, .float .f64 yf, .float .f64 yg], π (some ⟨oB, 0, none⟩), π (some ⟨lB, 0, none⟩)] W fun e W' => (∃ c : Int, e = .returned (O ι c) ∧ decide (c < 0) = befC dt (f i) (f j)) ∧ Ext W W' := by
 have x0 : Ext W ((W.alloc (χ #[O ι i, .float .f64 xf, .float .f64 xg] 66)).alloc (χ #[O ι j, .float .f64 yf, .float .f64 yg] 66)) := ((Ext.refl W).alloc _ _).alloc _ _
 have xa : Ext (W.alloc (χ #[O ι i, .float .f64 xf, .float .f64 xg] 66)) ((W.alloc (χ #[O ι i, .float .f64 xf, .float .f64 xg] 66)).alloc (χ #[O ι j, .float .f64 yf, .float .f64 yg] 66)) := (Ext.refl _).alloc _ _
 have n0 := xa.box (zd W #[O ι i, .float .f64 xf, .float .f64 xg] 66 W.heap.size rfl 0)
 have n1 := zd (W.alloc (χ #[O ι i, .float .f64 xf, .float .f64 xg] 66)) #[O ι j, .float .f64 yf, .float .f64 yg] 66 (W.heap.size + 1) (by simp) 0
 obtain ⟨u0', u1', u2'⟩ := hf i hi
 obtain ⟨v0', v1', v2'⟩ := hf j hj
 have hoi := hok i hi
 have hoj := hok j hj
 generalize f i = u at u0' u1' u2' hoi ⊢
 generalize f j = v at v0' v1' v2' hoj ⊢
 obtain ⟨u0, u1, u2⟩ := u
 obtain ⟨v0, v1, v2⟩ := v
 dsimp only at u0' u1' u2' v0' v1' v2'
 have SA : Hid ((fun w' : World => w'.cell? ⟨oB, 0, none⟩ = some (.func (.func 97) #[] #[π (some ⟨DB, 0, none⟩)]) ∧ w'.cell? ⟨lB, 0, none⟩ = some (σ (some ⟨bc, off, none⟩) K K) ∧ w'.cell? ⟨W.heap.size, 0, none⟩ = some (O ι i) ∧ w'.cell? ⟨W.heap.size + 1, 0, none⟩ = some (O ι j) ∧ w'.cell? ⟨bc, off + i * 3, none⟩ = some (O ι u0) ∧ w'.cell? ⟨bc, off + i * 3 + 1, none⟩ = some (.float .f64 u1) ∧ w'.cell? ⟨bc, off + i * 3 + 2, none⟩ = some (.float .f64 u2) ∧ w'.cell? ⟨bc, off + j * 3, none⟩ = some (O ι v0) ∧ w'.cell? ⟨bc, off + j * 3 + 1, none⟩ = some (.float .f64 v1) ∧ w'.cell? ⟨bc, off + j * 3 + 2, none⟩ = some (.float .f64 v2)) (((W.alloc (χ #[O ι i, .float .f64 xf, .float .f64 xg] 66)).alloc (χ #[O ι j, .float .f64 yf, .float .f64 yg] 66))).drew) := ⟨x0.box hO, x0.box hL, n0, n1, x0.box u0', x0.box u1', x0.box u2', x0.box v0', x0.box v1', x0.box v2'⟩
 have HO1 := hide (zs16 (W := (((W.alloc (χ #[O ι i, .float .f64 xf, .float .f64 xg] 66)).alloc (χ #[O ι j, .float .f64 yf, .float .f64 yg] 66))).drew) (x := (u0, u1, u2)) (y := (v0, v1, v2)) (x0.box hD) hoi hoj)
 unfold cellV at HO1
 have HX := hide x0.drew
 have b0 : (0 : Int) ≤ (i : Int) := Int.natCast_nonneg _
 have b1 : (i : Int) < (K : Int) := by omega
 have b2 : (0 : Int) ≤ (j : Int) := Int.natCast_nonneg _
 have b3 : (j : Int) < (K : Int) := by omega
 clear x0 xa n0 n1 u0' u1' u2' v0' v1' v2' hO hL hD hf hok hoi hoj
 go_enter Tryz.func101, Tryz.ntmps101
 go_wp2_with fail
 refine zs2 (S := (fun w' : World => w'.cell? ⟨oB, 0, none⟩ = some (.func (.func 97) #[] #[π (some ⟨DB, 0, none⟩)]) ∧ w'.cell? ⟨lB, 0, none⟩ = some (σ (some ⟨bc, off, none⟩) K K) ∧ w'.cell? ⟨W.heap.size, 0, none⟩ = some (O ι i) ∧ w'.cell? ⟨W.heap.size + 1, 0, none⟩ = some (O ι j) ∧ w'.cell? ⟨bc, off + i * 3, none⟩ = some (O ι u0) ∧ w'.cell? ⟨bc, off + i * 3 + 1, none⟩ = some (.float .f64 u1) ∧ w'.cell? ⟨bc, off + i * 3 + 2, none⟩ = some (.float .f64 u2) ∧ w'.cell? ⟨bc, off + j * 3, none⟩ = some (O ι v0) ∧ w'.cell? ⟨bc, off + j * 3 + 1, none⟩ = some (.float .f64 v1) ∧ w'.cell? ⟨bc, off + j * 3 + 2, none⟩ = some (.float .f64 v2))) (late := []) (by kernel_rfl) ?_
 generalize (((W.alloc (χ #[O ι i, .float .f64 xf, .float .f64 xg] 66)).alloc (χ #[O ι j, .float .f64 yf, .float .f64 yg] 66))).drew = t0 at SA HO1 HX ⊢
 refine zl27 0 7 (.func (.func 97) #[] #[π (some ⟨DB, 0, none⟩)]) rfl (.inl ⟨by kernel_rfl, ?_⟩) SA.out ?_
 ·rintro w' ⟨z0, z1, z2, z3, z4, z5, z6, z7, z8, z9⟩
  go_simp
 simp only [aP, sT, sZ, sS]
 refine zl27 1 8 (σ (some ⟨bc, off, none⟩) K K) rfl (.inl ⟨by kernel_rfl, ?_⟩) SA.out ?_
 ·rintro w' ⟨z0, z1, z2, z3, z4, z5, z6, z7, z8, z9⟩
  go_simp
 simp only [aP, sT, sZ, sS]
 refine zl27 2 9 (π (some ⟨W.heap.size, 0, none⟩)) rfl (.inl ⟨by kernel_rfl, ?_⟩) SA.out ?_
 ·rintro w' ⟨z0, z1, z2, z3, z4, z5, z6, z7, z8, z9⟩
  go_simp
 simp only [aP, sT, sZ, sS]
 refine zl27 3 10 (O ι i) rfl (.inl ⟨by kernel_rfl, ?_⟩) SA.out ?_
 ·rintro w' ⟨z0, z1, z2, z3, z4, z5, z6, z7, z8, z9⟩
  go_simp
 simp only [aP, sT, sZ, sS]
 refine zl27 4 11 (π (some ⟨bc, off + i * 3, none⟩)) rfl (.inl ⟨by kernel_rfl, ?_⟩) SA.out ?_
 ·rintro w' ⟨z0, z1, z2, z3, z4, z5, z6, z7, z8, z9⟩
  go_simp
 simp only [aP, sT, sZ, sS]
 refine zl27 5 12 (γ #[O ι u0, .float .f64 u1, .float .f64 u2]) rfl (.inl ⟨by kernel_rfl, ?_⟩) SA.out ?_
 ·rintro w' ⟨z0, z1, z2, z3, z4, z5, z6, z7, z8, z9⟩
  go_simp
 simp only [aP, sT, sZ, sS]
 refine zl27 6 13 (σ (some ⟨bc, off, none⟩) K K) rfl (.inl ⟨by kernel_rfl, ?_⟩) SA.out ?_
 ·rintro w' ⟨z0, z1, z2, z3, z4, z5, z6, z7, z8, z9⟩
  go_simp
 simp only [aP, sT, sZ, sS]
 refine zl27 7 14 (π (some ⟨W.heap.size + 1, 0, none⟩)) rfl (.inl ⟨by kernel_rfl, ?_⟩) SA.out ?_
 ·rintro w' ⟨z0, z1, z2, z3, z4, z5, z6, z7, z8, z9⟩
  go_simp
 simp only [aP, sT, sZ, sS]
 refine zl27 8 15 (O ι j) rfl (.inl ⟨by kernel_rfl, ?_⟩) SA.out ?_
 ·rintro w' ⟨z0, z1, z2, z3, z4, z5, z6, z7, z8, z9⟩
  go_simp
 simp only [aP, sT, sZ, sS]
 refine zl27 9 16 (π (some ⟨bc, off + j * 3, none⟩)) rfl (.inl ⟨by kernel_rfl, ?_⟩) SA.out ?_
 ·rintro w' ⟨z0, z1, z2, z3, z4, z5, z6, z7, z8, z9⟩
  go_simp
 simp only [aP, sT, sZ, sS]
 refine zl27 10 17 (γ #[O ι v0, .float .f64 v1, .float .f64 v2]) rfl (.inl ⟨by kernel_rfl, ?_⟩) SA.out ?_
 ·rintro w' ⟨z0, z1, z2, z3, z4, z5, z6, z7, z8, z9⟩
  go_simp
 simp only [aP, sT, sZ, sS]
 have eg := zt24
 refine ze (i := 11) (by kernel_rfl) rfl (fun K' hK' => ?_)
 go_simp
 refine HO1.out.mono ?_
 rintro e t1 ⟨⟨c, rfl, hc⟩, x1⟩
 have SB : Hid ((fun w' : World => w'.cell? ⟨oB, 0, none⟩ = some (.func (.func 97) #[] #[π (some ⟨DB, 0, none⟩)]) ∧ w'.cell? ⟨lB, 0, none⟩ = some (σ (some ⟨bc, off, none⟩) K K) ∧ w'.cell? ⟨W.heap.size, 0, none⟩ = some (O ι i) ∧ w'.cell? ⟨W.heap.size + 1, 0, none⟩ = some (O ι j) ∧ w'.cell? ⟨bc, off + i * 3, none⟩ = some (O ι u0) ∧ w'.cell? ⟨bc, off + i * 3 + 1, none⟩ = some (.float .f64 u1) ∧ w'.cell? ⟨bc, off + i * 3 + 2, none⟩ = some (.float .f64 u2) ∧ w'.cell? ⟨bc, off + j * 3, none⟩ = some (O ι v0) ∧ w'.cell? ⟨bc, off + j * 3 + 1, none⟩ = some (.float .f64 v1) ∧ w'.cell? ⟨bc, off + j * 3 + 2, none⟩ = some (.float .f64 v2)) t1) := ⟨x1.box (SA.out.1), x1.box (SA.out.2.1), x1.box (SA.out.2.2.1), x1.box (SA.out.2.2.2.1), x1.box (SA.out.2.2.2.2.1), x1.box (SA.out.2.2.2.2.2.1), x1.box (SA.out.2.2.2.2.2.2.1), x1.box (SA.out.2.2.2.2.2.2.2.1), x1.box (SA.out.2.2.2.2.2.2.2.2.1), x1.box (SA.out.2.2.2.2.2.2.2.2.2)⟩
 refine hK'.out _ _ (fun _ => SB.out) ?_
 clear hK' K'
 try simp only [aP, sT, sZ, sS]
 have HX1 := hide (HX.out.trans x1)
 clear x1 SA HX HO1
 refine zl27 12 6 (O ι c) rfl (.inl ⟨by kernel_rfl, ?_⟩) SB.out ?_
 ·rintro w' ⟨z0, z1, z2, z3, z4, z5, z6, z7, z8, z9⟩
  go_simp
 simp only [aP, sT, sZ, sS]
 refine zg (by kernel_rfl) ?_ _
 refine ⟨rfl, ?_⟩
 go_wp2
 go_ret
 exact ⟨⟨c, rfl, hc⟩, HX1.out⟩
theorem zf22 (args : Array Value) (w : World) : (callFunc 101 args).run Tryz.prog w = .ok (.enter 101 args) w := by
 have hn : ¬ Tryz.f101.name = "runtime.NumGoroutine" := by decide
 have hb : ¬ Tryz.f101.body = none := by intro h; cases h
 unfold callFunc
 simp [Tryz.func101, go_sem, hn, hb]
theorem zu24 (args : Array Value) (w : World) : (callFunc 61 args).run Tryz.prog w = .ok (.enter 61 args) w := by
 have hn : ¬ Tryz.f61.name = "runtime.NumGoroutine" := by decide
 have hb : ¬ Tryz.f61.body = none := by intro h; cases h
 unfold callFunc
 simp [Tryz.func61, go_sem, hn, hb]
def SxI (K : Nat) (c : C3) : Prop := 0 ≤ c.1 ∧ c.1 < K
def ltI (dt : Int) (f : Nat → C3) (x y : C3) : Bool := befC dt (f x.1.toNat) (f y.1.toNat)
theorem zr25 {dt : Int} {K : Nat} {f : Nat → C3} (hok : ∀ i, i < K → OkC dt (f i)) : Wk (SxI K) (ltI dt f) := by
 have h : ∀ x, SxI K x → OkC dt (f x.1.toNat) := fun x hx => hok _ (by have := hx.1; have := hx.2; omega)
 exact ⟨fun x y hx hy q => (ze9 dt).asym _ _ (h x hx) (h y hy) q, fun x y z hx hy hz q r => (ze9 dt).neg _ _ _ (h x hx) (h y hy) (h z hz) q r⟩
theorem zl24 {w : World} {oB lB DB bc off K gB : Nat} {dt : Int} {f : Nat → C3} (hO : w.cell? ⟨oB, 0, none⟩ = some (.func (.func 97) #[] #[π (some ⟨DB, 0, none⟩)])) (hL : w.cell? ⟨lB, 0, none⟩ = some (σ (some ⟨bc, off, none⟩) K K)) (hD : w.cell? ⟨DB, 0, none⟩ = some (O ι dt)) (hf : CF w bc off K f) (hok : ∀ i, i < K → OkC dt (f i)) (h1 : oB ≠ gB) (h2 : lB ≠ gB) (h3 : DB ≠ gB) (h4 : 0 < K → bc ≠ gB) :
  CmpK 101 #[π (some ⟨oB, 0, none⟩), π (some ⟨lB, 0, none⟩)] gB 0 K w (SxI K) (ltI dt f) := ⟨fun W x u v hu hv => by
 obtain ⟨a0, a1, a2⟩ := u
 obtain ⟨b0, b1, b2⟩ := v
 obtain ⟨i, rfl⟩ : ∃ i : Nat, a0 = i := ⟨a0.toNat, by have := hu.1; simp at this; omega⟩
 obtain ⟨j, rfl⟩ : ∃ j : Nat, b0 = j := ⟨b0.toNat, by have := hv.1; simp at this; omega⟩
 have hi : i < K := by have := hu.2; simp at this; omega
 have hj : j < K := by have := hv.2; simp at this; omega
 exact zh17 (x.rest h1 hO) (x.rest h2 hL) (x.rest h3 hD) (fun q hq => ⟨x.rest (h4 (by omega)) (hf q hq).1, x.rest (h4 (by omega)) (hf q hq).2.1, x.rest (h4 (by omega)) (hf q hq).2.2⟩) hok hi hj⟩
end
section
open Go.ChangeShapes Go.RowKit FL
def idxO (dt : Int) (K : Nat) (f : Nat → C3) (i : Nat) : C3 := ((ordL f dt K K).getD i 0, 0, 0)
def idF (i : Nat) : C3 := ((i : Int), 0, 0)
theorem zg23 {dt : Int} {K : Nat} {f : Nat → C3} {r : Nat → Nat} (h : Srt (ltI dt f) 0 K (fun i => tag idF (r i))) : Srt (befC dt) 0 K (fun i => tag f (r i)) := fun i j h1 h2 h3 => by
 have q := h i j h1 h2 h3
 unfold lts tag ltI idF at q
 simp only [Int.toNat_natCast] at q
 exact q
theorem CF.one {W : World} {b K k : Nat} {f : Nat → C3} (h : CF W b 0 K f) (hk : k < K) (x : Int) : CF (W.setCell ⟨b, k * 3, none⟩ (O ι x)) b 0 K (fun j => if j = k then (x, (f j).2.1, (f j).2.2) else f j) := fun j hj => by
 obtain ⟨a, c, d⟩ := h j hj
 rw [Nat.zero_add] at a c d ⊢
 by_cases e : j = k
 ·subst e
  simp only [if_pos rfl]
  refine ⟨World.cell?_setCell_same _ _ _ a, ze1 (by omega) c, ze1 (by omega) d⟩
 ·simp only [if_neg e]
  exact ⟨ze1 (by omega) a, ze1 (by omega) c, ze1 (by omega) d⟩
theorem zi9 {w : World} {bc off K DB : Nat} {dt : Int} {f : Nat → C3} (hf : CF w bc off K f) (hD : w.cell? ⟨DB, 0, none⟩ = some (O ι dt)) (hok : ∀ i, i < K → OkC dt (f i)) (hK : K ≤ 4096) (hb : 0 < K → bc < w.heap.size) :
  Calls Tryz.prog 62 #[σ (some ⟨bc, off, none⟩) K K, .func (.func 97) #[] #[π (some ⟨DB, 0, none⟩)]] w fun e w' => ∃ g, e = .returned (σ (some ⟨g, 0, none⟩) K K) ∧ CF w' g 0 K (idxO dt K f) ∧ w.heap.size ≤ g ∧ Ext w w' := by
 have x2 : Ext w ((w.alloc (χ #[σ (some ⟨bc, off, none⟩) K K] 61)).alloc (χ #[.func (.func 97) #[] #[π (some ⟨DB, 0, none⟩)]] 109)) := ((Ext.refl w).alloc _ _).alloc _ _
 have xa : Ext (w.alloc (χ #[σ (some ⟨bc, off, none⟩) K K] 61)) ((w.alloc (χ #[σ (some ⟨bc, off, none⟩) K K] 61)).alloc (χ #[.func (.func 97) #[] #[π (some ⟨DB, 0, none⟩)]] 109)) := (Ext.refl _).alloc _ _
 have x3 : Ext ((w.alloc (χ #[σ (some ⟨bc, off, none⟩) K K] 61)).alloc (χ #[.func (.func 97) #[] #[π (some ⟨DB, 0, none⟩)]] 109)) (((w.alloc (χ #[σ (some ⟨bc, off, none⟩) K K] 61)).alloc (χ #[.func (.func 97) #[] #[π (some ⟨DB, 0, none⟩)]] 109)).alloc (χ (madeCells #[O ι 0, .float .f64 0, .float .f64 0] (K * 3)) 66)) := (Ext.refl _).alloc _ _
 have hs2 : (((w.alloc (χ #[σ (some ⟨bc, off, none⟩) K K] 61)).alloc (χ #[.func (.func 97) #[] #[π (some ⟨DB, 0, none⟩)]] 109))).heap.size = w.heap.size + 2 := by simp
 have hmk := ze7 ((w.alloc (χ #[σ (some ⟨bc, off, none⟩) K K] 61)).alloc (χ #[.func (.func 97) #[] #[π (some ⟨DB, 0, none⟩)]] 109)) K hK
 rw [hs2] at hmk
 have l2 := xa.box (zd w #[σ (some ⟨bc, off, none⟩) K K] 61 w.heap.size rfl 0)
 have o2 := zd (w.alloc (χ #[σ (some ⟨bc, off, none⟩) K K] 61)) #[.func (.func 97) #[] #[π (some ⟨DB, 0, none⟩)]] 109 (w.heap.size + 1) (by simp) 0
 have HL3 := hide (x3.box l2)
 have HO3 := hide (x3.box o2)
 have HD3 := hide ((x2.trans x3).box hD)
 have hDl := zj hD
 have HF3 := hide (hf.ext (x2.trans x3))
 have HX3 := hide (x2.trans x3)
 have HC0 : Hid (CF (((w.alloc (χ #[σ (some ⟨bc, off, none⟩) K K] 61)).alloc (χ #[.func (.func 97) #[] #[π (some ⟨DB, 0, none⟩)]] 109)).alloc (χ (madeCells #[O ι 0, .float .f64 0, .float .f64 0] (K * 3)) 66)) (w.heap.size + 2) 0 K (fun j => if j < 0 then idF j else k0)) := fun j hj => by
  have q := ze12 ((w.alloc (χ #[σ (some ⟨bc, off, none⟩) K K] 61)).alloc (χ #[.func (.func 97) #[] #[π (some ⟨DB, 0, none⟩)]] 109)) K j (by simpa using hj)
  have e : (List.replicate K k0).getD j k0 = k0 := by rw [List.getD_eq_getElem?_getD, List.getElem?_replicate]; split <;> rfl
  rw [e, hs2] at q
  simp only [Nat.not_lt_zero, if_false]
  exact q
 have l2' := l2
 have HOK := hide hok
 clear x2 xa x3 hf hD hok o2 hs2 l2'
 go_enter Tryz.func62, Tryz.ntmps62
 go_wp2_with fail
 generalize (((w.alloc (χ #[σ (some ⟨bc, off, none⟩) K K] 61)).alloc (χ #[.func (.func 97) #[] #[π (some ⟨DB, 0, none⟩)]] 109)).alloc (χ (madeCells #[O ι 0, .float .f64 0, .float .f64 0] (K * 3)) 66)) = W3 at HL3 HO3 HD3 HF3 HX3 HC0 ⊢
 clear hmk l2
 go_loopw [12] (fun i wr => ∃ k : Nat, i = O ι k ∧ k ≤ K ∧ CF wr (w.heap.size + 2) 0 K (fun j => if j < k then idF j else k0) ∧ Mut (w.heap.size + 2) W3 wr) (fun i _ => K - (intOf i).toNat)
 case atStart => exact ⟨0, rfl, by omega, HC0.out, Mut.refl _ _⟩
 case round =>
  obtain ⟨k, rfl, hk, hc, hm⟩ := hrel
  have HC := hide hc
  have HM := hide hm
  have HFZ : Hid (∀ o, wr.frozen? ⟨w.heap.size + 2, o, none⟩ = false) := fun o => (hm.fz _).trans (HX3.out.unfrozen (by omega) o)
  clear hc hm HC0
  by_cases hlt : k < K
  ·have hd : decide ((k : Int) < (K : Int)) = true := decide_eq_true (by omega)
   have b0 : (0 : Int) ≤ (k : Int) := Int.natCast_nonneg _
   have b1 : (k : Int) < (K : Int) := by omega
   have y0 := (HC.out k hlt).1
   rw [Nat.zero_add] at y0
   have g0 := HFZ.out (k * 3)
   have HS : Hid (CF (wr.setCell ⟨w.heap.size + 2, k * 3, none⟩ (O ι k)) (w.heap.size + 2) 0 K (fun j => if j < k + 1 then idF j else k0)) := (HC.out.one hlt k).congr (fun j hj => by
    by_cases e : j = k
    ·subst e
     simp only [if_pos rfl, Nat.lt_irrefl, if_false]
     rw [if_pos (by omega)]
     rfl
    ·simp only [if_neg e]
     by_cases z : j < k
     ·rw [if_pos z, if_pos (by omega)]
     ·rw [if_neg z, if_neg (by omega)])
   have HM2 := hide (HM.out.setCell (k * 3) (O ι k))
   generalize (if k < k then idF k else k0 : C3).1 = old at y0
   go_wp2_with fail
   go_roundw
   ·exact ⟨k + 1, by go_num, by omega, HS.out, HM2.out⟩
   ·simp [intOf]; omega
  ·have hkk : k = K := by omega
   subst hkk
   have hd : decide ((k : Int) < (k : Int)) = false := decide_eq_false (by omega)
   have hcf : CF wr (w.heap.size + 2) 0 k idF := HC.out.congr (fun j hj => by simp [hj])
   have HST := hide (zw7 (cap := k) (gf := 101) (cb := #[π (some ⟨w.heap.size + 1, 0, none⟩), π (some ⟨w.heap.size, 0, none⟩)]) zf22 (zr25 HOK.out) hcf HFZ.out (zl24 (HM.out.box (by omega) HO3.out) (HM.out.box (by omega) HL3.out) (HM.out.box (by omega) HD3.out) (fun q hq => ⟨HM.out.box (by omega) (HF3.out q hq).1, HM.out.box (by omega) (HF3.out q hq).2.1, HM.out.box (by omega) (HF3.out q hq).2.2⟩) HOK.out (by omega) (by omega) (by omega) (fun z => by have := hb z; omega)) (fun i hi => ⟨by show (0 : Int) ≤ (i : Int); omega, by show (i : Int) < _; omega⟩) (by omega))
   clear hcf
   go_wp2_with fail
   refine HST.out.mono ?_
   rintro e W5 ⟨rfl, r, hp, hsr, hc, hmr⟩
   have HEND : Hid (CF W5 (w.heap.size + 2) 0 k (idxO dt k f)) := hc.congr (fun j hj => by
    unfold idxO
    rw [zt16 HOK.out hp (zg23 hsr) j hj]
    rfl)
   have HXE : Hid (Ext w W5) := (HM.out.trans hmr.m).ext HX3.out (by omega)
   clear hp hsr hc hmr HST
   go_wp2
   go_ret
   exact ⟨_, rfl, HEND.out, by omega, HXE.out⟩
theorem zn12 {w : World} {bc off K OB DB : Nat} {dt : Int} {f : Nat → C3} (hf : CF w bc off K f) (hO : w.cell? ⟨OB, 0, none⟩ = some (.func (.func 97) #[] #[π (some ⟨DB, 0, none⟩)])) (hD : w.cell? ⟨DB, 0, none⟩ = some (O ι dt)) (hok : ∀ i, i < K → OkC dt (f i)) (hK : K ≤ 4096) (hb : 0 < K → bc < w.heap.size) :
  Calls Tryz.prog 61 #[σ (some ⟨bc, off, none⟩) K K, π (some ⟨OB, 0, none⟩)] w fun e w' => ∃ g, e = .returned (σ (some ⟨g, 0, none⟩) K K) ∧ CF w' g 0 K (idxO dt K f) ∧ w.heap.size ≤ g ∧ Ext w w' := by
 have HS := hide (zi9 hf hD hok hK hb)
 clear hf hD hok
 go_enter Tryz.func61, Tryz.ntmps61
 go_wp2_with fail
 refine HS.out.mono ?_
 rintro e W1 ⟨g, rfl, q1, q2, q3⟩
 have Q1 := hide q1
 have Q3 := hide q3
 clear q1 q3 HS
 go_wp2
 go_ret
 exact ⟨g, rfl, Q1.out, q2, Q3.out⟩
theorem zs19 {dt : Int} {K : Nat} (f g : Nat → C3) (h : ∀ i, i < K → f i = g i) (i : Nat) (hi : i < K) : idxO dt K f i = idxO dt K g i := by
 unfold idxO
 rw [zk15 h]
theorem zn25 {w : World} {OB DB K : Nat} {dt : Int} (hO : w.cell? ⟨OB, 0, none⟩ = some (.func (.func 97) #[] #[π (some ⟨DB, 0, none⟩)])) (hD : w.cell? ⟨DB, 0, none⟩ = some (O ι dt)) (hK : K ≤ 4096) :
  ∀ W cB gB bc, Bel w W → w.heap.size ≤ cB → w.heap.size ≤ gB → W.heap.size ≤ bc → OfK 61 #[π (some ⟨OB, 0, none⟩)] bc K dt (idxO dt K) (KpO W cB gB) := fun W cB gB bc x h1 h2 h3 => by
 have lO := zj hO
 have lD := zj hD
 have hs := x.size
 refine ⟨fun W' off f hk hf hz hok => ?_⟩
 have hO' := hk.cell (by omega) (by omega) (Bel.box x hO)
 have hD' := hk.cell (by omega) (by omega) (Bel.box x hD)
 refine (zn12 hf hO' hD' hok hK (fun z => zj (hf 0 z).1)).mono ?_
 rintro e W2 ⟨g, rfl, q1, q2, q3⟩
 exact ⟨g, 0, K, rfl, q1, ⟨f, hf.ext q3, hok⟩, (MRg.refl bc off K W').ext q3⟩
theorem HOwn.low {W : World} {lo g b q : Nat} {cb : Nat → Nat} {ts : List St} {v : Value} (h : HOwn W lo g cb ts) (hb : b < lo) : HOwn (W.setCell ⟨b, q, none⟩ v) lo g cb ts :=
 HOwn.far h (by have := h.lo_g; omega) (fun j hj hne => by have a1 := h.g_cb j hj hne; have a2 := h.lo_g; omega)
def IsoOk (w : World) (ss : List St) (a : Ar) (ax : Int) (e : Ending) (w' : World) : Prop := ∃ c u ts, e = .returned (γ #[O ι c, u]) ∧ SortOk ss a ax c ts ∧ MOwn w' w.heap.size u ts ∧ Bel w w'
end
end Go.Proofs.YtfhcpicddegblaaGreat
