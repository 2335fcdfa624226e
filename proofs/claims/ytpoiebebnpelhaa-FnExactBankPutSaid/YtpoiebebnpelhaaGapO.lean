/- Chapter 2: PutIn of both sides (gen_gapo.py). -/
import Derived.Test.YtpoiebebnpelhaaGapN
namespace Go.Proofs.Ytpoiebebnpelhaa
open Go.RowKit
set_option linter.unusedVariables false

theorem leastG_le (size : Int) : ∀ (r : List Gp) (k : Nat) (b : Option (Nat × Int)), (∀ y, b = some y → size ≤ y.2) → ∀ y, leastG size r k b = some y → size ≤ y.2
  | [], k, b, hb, y, hy => hb y hy
  | g :: r, k, b, hb, y, hy => by
    refine leastG_le size r (k + 1) _ ?_ y hy
    intro z hz
    split at hz
    · rename_i h; injection hz with hz; subst hz; exact h.1
    · exact hb z hz
/-- what is known of the gap that a parcel gets -/
theorem fit_facts {G : List Gp} {size : Int} {g : Gp} (h : fitV G size = (g, true)) : 1 ≤ size ∧ size ≤ g.size ∧ g ∈ G := by
  unfold fitV at h
  by_cases hs : 1 ≤ size
  · rw [if_pos hs] at h
    cases e : leastG size G 0 none with
    | none => rw [e] at h; injection h with _ h; cases h
    | some y =>
      rw [e] at h
      obtain ⟨g', hg', hv⟩ := leastG_at size G G 0 none (by simp) (fun y hy => by cases hy) y e
      have hle := leastG_le size G 0 none (fun y hy => by cases hy) y e
      injection h with h _
      rw [hg'] at h
      have h : g' = g := h
      subst h
      exact ⟨hs, by rw [hv]; exact hle, List.mem_of_getElem? hg'⟩
  · rw [if_neg hs] at h; injection h with _ h; cases h
theorem gapsO_mem {z : Int} {F : List Int} {L : List Bx} {g : Gp} (hg : g ∈ gapsO z F L) : ColOk z F L ∧ ∃ (Q : List Bx) (y : Bx) (r : List Bx), L = Q ++ y :: r ∧ opn y = true ∧ g = ⟨0, y.low, y.size + runZ F r⟩ ∧ (∀ b ∈ Q, b.low < y.low) ∧ ∃ a', Con a' (y :: r) := by
  by_cases h : ColOk z F L
  · rw [gapsO_ok h] at hg
    obtain ⟨Q, y, r, e1, e2, e3, e4, e5⟩ := gap_at F 0 L.length L [] 0 (Nat.le_refl _) (con_all h.box) (fun b hb => by cases hb) g hg
    exact ⟨h, Q, y, r, by simpa using e1, e2, e3, e4, e5⟩
  · rw [gapsO_no h] at hg; cases hg
theorem fIdx_P0G {p : Int} (h : 0 < p) (L : List Bx) : fIdx (hasP p) L 0 = fIdx (hasP0 p) L 0 := fIdx_congr _ _ fun y _ => by simp [hasP, hasP0, h]
def PutC (z : Int) (F : List Int) (L : List Bx) (p size : Int) : Prop := (fitV (gapsO z F L) size).2 = true ∧ (1 ≤ p ∧ p ≤ 999) ∧ fIdx (hasP p) L 0 < 0
def putR (z : Int) (F : List Int) (L : List Bx) (p size : Int) (z' : Int) (F' : List Int) (L' : List Bx) (i : Int) (b : Bool) : Prop :=
  z' = z ∧ F' = F ∧ ((PutC z F L p size ∧ L' = fillL (fitV (gapsO z F L) size).1 p size L ∧ i = (fitV (gapsO z F L) size).1.low ∧ b = true) ∨ (¬ PutC z F L p size ∧ L' = L ∧ i = -1 ∧ b = false))
theorem put_det {z : Int} {F : List Int} {L : List Bx} {p size z1 z2 : Int} {F1 F2 : List Int} {L1 L2 : List Bx} {i1 i2 : Int} {b1 b2 : Bool} (h1 : putR z F L p size z1 F1 L1 i1 b1) (h2 : putR z F L p size z2 F2 L2 i2 b2) : z1 = z2 ∧ F1 = F2 ∧ L1 = L2 ∧ i1 = i2 ∧ b1 = b2 := by
  obtain ⟨rfl, rfl, h1⟩ := h1
  obtain ⟨rfl, rfl, h2⟩ := h2
  rcases h1 with ⟨c, rfl, rfl, rfl⟩ | ⟨c, rfl, rfl, rfl⟩
  · rcases h2 with ⟨_, rfl, rfl, rfl⟩ | ⟨c', _⟩
    · exact ⟨rfl, rfl, rfl, rfl, rfl⟩
    · exact absurd c c'
  · rcases h2 with ⟨c', _⟩ | ⟨_, rfl, rfl, rfl⟩
    · exact absurd c' c
    · exact ⟨rfl, rfl, rfl, rfl, rfl⟩
/-- the answer is a column of the call's own, a number and a flag -/
def ColAnsIB (R : Int → List Int → List Bx → Int → Bool → Prop) (w : World) (e : Ending) (w' : World) : Prop :=
  ∃ z' F' L' i b A2 A3 n2 n3, e = .returned (.tuple #[.agg #[.int .i64 z', .slice A2 F'.length n2, .slice A3 L'.length n3], .int .i64 i, .bool b]) ∧ R z' F' L' i b ∧ F'.length ≤ 1048576 ∧ L'.length ≤ 1048576 ∧ OR w' w.heap.size 3 A2 (intV F') ∧ OR w' w.heap.size 72 A3 (boxV L') ∧ Below w.heap.size w w'
theorem parI_any (w : World) (p : Int) : Calls Try.prog 43 #[.int .i64 p] w fun e w' => e = .returned (.bool (decide (1 ≤ p) && decide (p ≤ 999))) ∧ w' = w := by
  by_cases h1 : 1 ≤ p
  · by_cases h2 : p ≤ 999
    · go_enter Try.func43, Try.ntmps43
      go_wp2
      go_ret
      exact ⟨ret_bool (by simp [h1, h2]), rfl⟩
    · go_enter Try.func43, Try.ntmps43
      go_wp2
      go_ret
      exact ⟨ret_bool (by simp [h1, h2]), rfl⟩
  · go_enter Try.func43, Try.ntmps43
    go_wp2
    go_ret
    exact ⟨ret_bool (by rw [decide_eq_false (show ¬ 1 ≤ p by omega)]; rfl), rfl⟩

end Go.Proofs.Ytpoiebebnpelhaa
