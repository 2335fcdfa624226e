/- Chapter 2: Cleared of the model (gen_gapn.py). -/
import Derived.Test.YtpoiebebnpelhaaGapJ
namespace Go.Proofs.Ytpoiebebnpelhaa
open Go.RowKit
set_option linter.unusedVariables false

theorem cell_farN {w : World} {g q : Nat} (h : q ≠ g) (o i j k : Nat) (u v x : Value) : (((w.setCell ⟨g, i, none⟩ u).setCell ⟨g, j, none⟩ v).setCell ⟨g, k, none⟩ x).cell? ⟨q, o, none⟩ = w.cell? ⟨q, o, none⟩ := by
  rw [World.cell?_setCell_other _ _ _ _ (fun e => by injection e; omega), World.cell?_setCell_other _ _ _ _ (fun e => by injection e; omega), World.cell?_setCell_other _ _ _ _ (fun e => by injection e; omega)]
def fillAll (L : List Bx) (G : List Gp) : List Bx := G.foldl (fun out g => fillL g 0 g.size out) L
theorem fillAll_succ {L : List Bx} {G : List Gp} {k : Nat} {g : Gp} (h : G[k]? = some g) : fillAll L (G.take (k + 1)) = fillL g 0 g.size (fillAll L (G.take k)) := by
  unfold fillAll; rw [List.take_add_one, h]; simp
theorem fillL_len1 {g : Gp} {p : Int} (hg : 1 ≤ g.size) (L : List Bx) : (fillL g p g.size L).length ≤ L.length := by
  induction L with
  | nil => simp [fillL]
  | cons x r ih =>
    unfold fillL at ih ⊢
    rw [List.flatMap_cons, List.length_append]
    have : (fillB g p g.size x).length ≤ 1 := by
      unfold fillB
      by_cases h : x.low = g.low
      · rw [if_pos h, if_neg (by omega), if_neg (by omega)]; simp
      · rw [if_neg h]; split <;> simp
    rw [List.length_cons]; omega
theorem fillAll_len {G : List Gp} (hg : ∀ g ∈ G, 1 ≤ g.size) (L : List Bx) : ∀ k, k ≤ G.length → (fillAll L (G.take k)).length ≤ L.length
  | 0, _ => by simp [fillAll]
  | k + 1, hk => by
    have h := List.getElem?_eq_getElem (l := G) (i := k) (by omega)
    rw [fillAll_succ h]
    exact Nat.le_trans (fillL_len1 (hg _ (List.getElem_mem _)) _) (fillAll_len hg L k (by omega))
theorem gapsO_bd {z : Int} {F : List Int} {L : List Bx} : ∀ g ∈ gapsO z F L, 0 ≤ g.low ∧ g.low ≤ 24 ∧ 1 ≤ g.size ∧ g.size ≤ 24 := fun g hg => by
  by_cases h : ColOk z F L
  · rw [gapsO_ok h] at hg
    obtain ⟨hcs, hc24, hcl⟩ := col_sum h
    obtain ⟨Q, y, r, e1, e2, rfl, e4, a', e5⟩ := gap_at F 0 L.length L [] 0 (Nat.le_refl _) (con_all h.box) (fun b hb => by cases hb) g hg
    rw [List.nil_append] at e1
    have h1 := con_low (con_all h.box) y (by rw [e1]; simp)
    have h2 := hcs y (by rw [e1]; simp)
    have h3 := sumZ_app Q (y :: r)
    rw [← e1, sumZ_cons] at h3
    have h4 := sumZ_pos (L := Q) fun b hb => hcs b (by rw [e1]; exact List.mem_append_left _ hb)
    have h5 := runZ_take F r
    have h6 : 0 ≤ sumZ (r.take (runN F r)) := sumZ_pos fun b hb => hcs b (by rw [e1]; simp [List.mem_of_mem_take hb])
    have h7 : 0 ≤ sumZ (r.drop (runN F r)) := sumZ_pos fun b hb => hcs b (by rw [e1]; simp [List.mem_of_mem_drop hb])
    have h8 := sumZ_app (r.take (runN F r)) (r.drop (runN F r))
    rw [List.take_append_drop] at h8
    dsimp only
    omega
  · rw [gapsO_no h] at hg; cases hg
theorem fillAll_clr (z : Int) (F : List Int) (L : List Bx) : fillAll L (gapsO z F L) = clrO z F L := by
  by_cases h : ColOk z F L
  · rw [gapsO_ok h, clrO_ok h]
    have := fill_all F 0 L.length L [] 0 (Nat.le_refl _) (con_all h.box) (fun b hb => by cases hb)
    simpa [fillAll] using this
  · rw [gapsO_no h, clrO_no h]; rfl

end Go.Proofs.Ytpoiebebnpelhaa
