import Derived.Test.YtjjemnlknnnkbaaPoolF
namespace Go.Proofs.Ytjjemnlknnnkbaa
open Go.ChangeShapes Go.RowKit Go.Lib Go.ChangeMaps
set_option linter.unusedSimpArgs false
set_option linter.unusedVariables false
def liveAt (bs : List Blk) (x : Int) : Bool := decide (0 ≤ x) && (decide (x < bs.length) && (bs.getD x.toNat b0).2)

set_option maxHeartbeats 800000 in
/-- isLive -/
theorem isLive_any {w : World} {base P Mb n : Nat} {sum budget : Int} {bs : List Blk} {zs : List IB} {vB : Value} {M : Int → Value} {F : Int → List Int} (h : PIv w base P Mb n sum budget bs zs vB M F) (x : Int) :
    Calls Try.prog 48 #[.pointer (some ⟨P, 0, none⟩), .int .i64 x] w fun e w' => e = .returned (.bool (liveAt bs x)) ∧ w' = w := by
  have c4 := h.pb.c4
  have hl : bs.length ≤ maxLen := by
    rcases h.own.2 with ⟨_, h2⟩ | ⟨g, cap, cur, h1, h2, h3, h4, h5, _⟩ <;> omega
  unfold maxLen at hl
  obtain ⟨sa, cap, rfl⟩ := own_form2 h.own
  have H := hide h
  have hzl := h.zl
  have hzf := h.zf
  have hown := hide h.own
  clear h
  by_cases h0 : 0 ≤ x
  · by_cases h1 : x < bs.length
    · obtain ⟨k, rfl⟩ : ∃ k : Nat, x = (k : Int) := ⟨x.toNat, by omega⟩
      have hk : k < bs.length := by omega
      obtain ⟨g, cap', e, _⟩ := own_form3 hown.out (by omega)
      injection e with e1 _ e2
      subst e1 e2
      obtain ⟨q0, q1⟩ := zown_at hown.out k (by omega)
      rw [hzf k hk] at q1
      have hlv : Hid (liveAt bs k = (bs.getD k b0).2) := by show liveAt bs k = _; unfold liveAt; simp [hk]
      have hx : Hid (Ext w w) := Ext.refl w
      generalize (bs.getD k b0).2 = U at q1 hlv
      clear hzf hzl hown H
      go_enter Try.func48, Try.ntmps48
      go_wp2
      go_ret
      exact ⟨by rw [hlv.out]; rfl, rfl⟩
    · have hlv : Hid (liveAt bs x = false) := by show liveAt bs x = _; unfold liveAt; simp [h1]
      clear hzf hzl hown H
      go_enter Try.func48, Try.ntmps48
      go_wp2
      go_ret
      exact ⟨by rw [hlv.out]; rfl, rfl⟩
  · have hlv : Hid (liveAt bs x = false) := by show liveAt bs x = _; unfold liveAt; simp [h0]
    clear hzf hzl hown H
    go_enter Try.func48, Try.ntmps48
    go_wp2
    go_ret
    exact ⟨by rw [hlv.out]; rfl, rfl⟩
end Go.Proofs.Ytjjemnlknnnkbaa
