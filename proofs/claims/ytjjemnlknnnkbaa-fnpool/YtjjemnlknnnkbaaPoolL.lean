import Derived.Test.YtjjemnlknnnkbaaPoolK
import Derived.Deep.RegionLaw
import Derived.Shelf.RegionOpen
namespace Go.Proofs.Ytjjemnlknnnkbaa
open Go.ChangeShapes Go.RowKit Go.Lib Go.ChangeMaps
set_option linter.unusedSimpArgs false
set_option linter.unusedVariables false
theorem info100 : (Try.prog.info? 100).map (fun i => (i.zero, i.size, i.bytes)) = some (some (.agg #[.slice none 0 0, .bool false]), 2, 32) := by kernel_rfl
theorem info5 : (Try.prog.info? 5).map (fun i => (i.zero, i.size, i.bytes)) = some (some (.int .u8 0), 1, 1) := by kernel_rfl

/-- append at a step of a region that draws, whether or not something is appended. -/
theorem step_append_at {P : Program} (w : World) {ops : Array Oper} {o : Oper} {a : Act} {K : Act → World → Prop} {Q : Exit → Act → World → Prop} {E : Prop} (hgd : o.guard = none) (s x : Operand) (t : TypeId)
    (ho : o.op = .call { callee := .builtin .append, args := #[s, x], argTypes := #[t, t] })
    (base : Nat) (e : TypeId) (i : TypeInfo) (z : Value) (size bytes : Nat) (ht : P.underlying t = some (.slice e)) (hi : P.info? e = some i) (hz : i.zero = some z)
    (hsize : i.size = size) (hby : i.bytes = bytes) (hzs : z.cells.size = size) (hsz : 0 < size)
    (v : Value) (n : Nat) (xs : List Value) (hs : a.eval s = v) (hown : w.ownsRow base e size v n xs)
    (ad : Addr) (m c : Nat) (news : List Value) (hx : a.eval x = .slice (some ad) m c) (hl : news.length = m * size) (hnews : ∀ j u, news[j]? = some u → w.cell? (ad.add j) = some u) (h1 : ∀ u ∈ news, u.oneCell' = true)
    (h63 : n + m ≤ maxLen) (hbytes : (n + m) * bytes ≤ 140737488355328) (hbase : base ≤ w.heap.size)
    (h : ∀ v' w', w'.ownsRow base e size v' (n + m) (xs ++ news) → w.grownBy w' v.ownBlock → (v'.ownBlock = v.ownBlock ∨ v'.ownBlock = some w.heap.size) → K (a.put o.dst v') w') :
    if Region.wanted o (yielded ops a.tmps) = true then Oper.wp P o a w K Q else E := by
  have hw : Region.wanted o (yielded ops a.tmps) = true := by simp [Region.wanted, hgd]
  rw [if_pos hw]
  obtain ⟨v', w', hr, h2, h3, _, h5⟩ := run_append_own_at (P := P) w base t o.type e i z size bytes ht hi hz hsize hby hzs hsz v n xs hown ad m c news hl hnews h1 h63 hbytes hbase
  unfold Oper.wp execOp
  simp only [ho, resolve, invoke, builtin, Sem.run_bind, Sem.run_pure, Result.andThen_ok, List.map_toArray, List.map_cons, List.map_nil, hs, hx, hr]
  exact h v' w' h2 h3 h5


/-- One block more. -/
theorem PIv.push {w w3 : World} {base P Mb n m : Nat} {sum budget : Int} {bs : List Blk} {zs : List IB} {vB v3 : Value} {M : Int → Value} {F : Int → List Int} {A B : Array Value} (h : PIv w base P Mb n sum budget bs zs vB M F) (hA : m ≤ A.size)
    (hg : ((w.alloc (.cells A 5)).alloc (.cells B 100)).drew.grownBy w3 vB.ownBlock) (ho : w3.ownsRow base 100 2 v3 (bs.length + 1) (zcells zs ++ zvv (.slice (some ⟨w.heap.size, 0, none⟩) m m, false))) (hat : v3.ownBlock = vB.ownBlock ∨ v3.ownBlock = some (w.heap.size + 1 + 1)) :
    PIv (w3.setCell ⟨P, 4, none⟩ v3) base P Mb n sum budget (bs ++ [((m : Int), false)]) (zs ++ [(.slice (some ⟨w.heap.size, 0, none⟩) m m, false)]) v3 M F ∧ Kp base P w (w3.setCell ⟨P, 4, none⟩ v3) := by
  have x : Ext w ((w.alloc (.cells A 5)).alloc (.cells B 100)).drew := (((Ext.refl w).alloc A 5).alloc B 100).drew
  have hP := h.pb.lt
  have hyW : ((w.alloc (.cells A 5)).alloc (.cells B 100)).drew.heap[w.heap.size]? = some (.cells A 5 (0, 0)) := heap_alloc2_old w _ _
  have h' := h.ext x
  generalize ((w.alloc (.cells A 5)).alloc (.cells B 100)).drew = W at *
  have hP4 : w3.grownBy (w3.setCell ⟨P, 4, none⟩ v3) (some P) := ⟨rfl, rfl, rfl, by simp [World.setCell], fun k _ hk => heap_setCell_other w3 ⟨P, 4, none⟩ k v3 (fun e => hk (by simp [e]))⟩
  have hvP : v3.ownBlock ≠ some P := by
    rcases hat with q | q
    · rw [q]; exact h.pB
    · rw [q]; intro e; have := Option.some.inj e; omega
  have hyB : some w.heap.size ≠ vB.ownBlock := fun e => by
    obtain ⟨_, cur, h1⟩ := h.bBlk e.symm
    have := (Array.getElem?_eq_some_iff.1 h1).1
    omega
  have hyl : w.heap.size < W.heap.size := (Array.getElem?_eq_some_iff.1 hyW).1
  have nB : ∀ k c, W.heap[k]? = some c → (∀ cur, c ≠ .cells cur 100 (0, 0)) → some k ≠ vB.ownBlock := fun k c hc hn e => by
    obtain ⟨_, cur, h1⟩ := h'.bBlk e.symm
    rw [hc] at h1
    exact hn cur (Option.some.inj h1)
  have gl : ∀ {α : Type} (l : List α) (d y : α) (j : Nat), (l ++ [y]).getD j d = if j < l.length then l.getD j d else if j = l.length then y else d := fun l d y j => by
    rw [List.getD_eq_getElem?_getD]
    by_cases e : j < l.length
    · rw [if_pos e, List.getElem?_append_left e, ← List.getD_eq_getElem?_getD]
    · rw [if_neg e, List.getElem?_append_right (by omega)]
      by_cases e2 : j = l.length
      · rw [if_pos e2, e2]; simp
      · rw [if_neg e2, List.getElem?_eq_none (by simp; omega)]; rfl
  have zlen := h.zl
  refine ⟨⟨(h'.pb.row hg (fun e => h'.pB e.symm)).setB v3, ?_, by simp [h.zl], fun j hj => ?_, fun j hj => ?_, (h'.mp.row hg ?_).row hP4 (fun e => h.pm (Option.some.inj e).symm), fun s => ((h'.fr s).row hg fun k hk => ?_).row hP4 fun k hk e => h.pf s (by rw [hk, e]), h.inj, ⟨h.lo.1, h.lo.2.1, Nat.le_trans h'.lo.2.2 (Nat.le_trans hg.size hP4.size)⟩, h.lof, fun j hj k hk => ?_, h.pm, hvP, h.pf, fun j hj => ?_⟩, (Kp.ext x).trans ((Kp.of hg fun k e => ?_).trans (Kp.of hP4 fun k e => by cases e; exact ⟨h.lo.1, Or.inl rfl⟩))⟩
  · rw [List.length_append, List.length_singleton, zcells_snoc]
    exact ho.kept hP4 (Or.inr hvP)
  · rw [gl, gl, zlen]
    split
    · exact h.zf j (by assumption)
    · split <;> rfl
  · rw [gl, gl, zlen]
    rw [List.length_append, List.length_singleton] at hj
    by_cases e : j < bs.length
    · rw [if_pos e, if_pos e]
      refine ((h'.zb j e).row hg fun k hk => ?_).row hP4 fun k hk e1 => h.py j e (by rw [hk, e1])
      obtain ⟨cur, h1⟩ := h'.yBlk e hk
      exact nB k _ h1 (fun cur e1 => by cases e1)
    · have e2 : j = bs.length := by omega
      rw [if_neg e, if_neg e, if_pos e2, if_pos e2]
      refine ⟨w.heap.size, m, A, rfl, rfl, ?_, hA⟩
      rw [hP4.block _ (Nat.lt_of_lt_of_le hyl hg.size) (fun e1 => by have := Option.some.inj e1; omega), hg.block _ hyl hyB]
      exact hyW
  · obtain ⟨es, c, h1⟩ := h'.mBlk
    exact nB Mb _ h1 (fun cur e1 => by cases e1)
  · obtain ⟨cur, h1⟩ := (h'.fr s).blk hk
    exact nB k _ h1 (fun cur e1 => by cases e1)
  · rw [List.length_append, List.length_singleton] at hj
    rw [gl, zlen] at hk
    by_cases e : j < bs.length
    · rw [if_pos e] at hk; exact h.loy j e k hk
    · rw [if_neg e, if_pos (by omega)] at hk
      have := h.lo.2.2
      simp [Value.ownBlock] at hk
      omega
  · rw [List.length_append, List.length_singleton] at hj
    rw [gl, zlen]
    by_cases e : j < bs.length
    · rw [if_pos e]; exact h.py j e
    · rw [if_neg e, if_pos (by omega)]
      intro e1
      simp [Value.ownBlock] at e1
      omega
  · obtain ⟨h1, cur, h2⟩ := h'.bBlk e
    exact ⟨h1, Or.inr fun c e1 => by rw [h2] at e1; cases e1⟩
end Go.Proofs.Ytjjemnlknnnkbaa
