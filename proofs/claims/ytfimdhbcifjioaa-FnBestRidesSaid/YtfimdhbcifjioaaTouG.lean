/- Chapter 7: contracts of TriangleOk, by the program and by the model (gen_toug.py). -/
import Derived.Test.YtfimdhbcifjioaaTouF
import Derived.Deep.RegionHeld3
import Derived.Deep.DeepMust
import Derived.WalkLawsBesides
namespace Go.Proofs.Ytfimdhbcifjioaa
open Go.RowKit
set_option linter.unusedVariables false

/-- a leg as it is read -/
theorem legs_at {w : World} {B : Nat} {b r : Int} {bl fl : Nat} {R : List Rw} {AS : Option Addr} {S : List Sp} (hT : RoundT b r (gOf R) S) (hR : RdIn w B (some ⟨bl, fl, none⟩) R AS S) {p : Nat} (hp : p < R.length) :
    ∃ b3 f3 xc, b3 < B ∧ w.cell? ⟨bl, fl + p, none⟩ = some (.slice (some ⟨b3, f3, none⟩) R.length xc) ∧ ∀ q : Nat, q < R.length → w.cell? ⟨b3, f3 + q, none⟩ = some (.int .i64 (legT (gOf R) p q)) := by
  have hl : R.length = S.length + 1 := by have := hT.len; rwa [gOf_len] at this
  obtain ⟨x, hx, hlen, hq⟩ := leg_row hT (p := p) (by omega)
  obtain ⟨bb, ff, x', hA, _, hx', hc⟩ := hR.rows.at_ hp
  injection hA with hA; injection hA with h1 h2; subst h1; subst h2
  obtain rfl : x' = x := by rw [hx] at hx'; injection hx' with hx'; exact hx'.symm
  have hil := (hR.vals _ (List.mem_of_getElem? hx)).1
  rcases hil with h0 | ⟨b3, f3, hA3, hb3, hc3⟩
  · rw [h0] at hlen; simp at hlen
  · refine ⟨b3, f3, x'.c, hb3, ?_, fun q hq2 => hc3 q _ (hq q (by omega))⟩
    rw [hc, hA3, hlen, hl]
def TriT (n : Nat) (G : List (List Int)) : Prop := ∀ i k m : Nat, i < n → k < n → m < n → legT G i k ≤ legT G i m + legT G m k
theorem tells_call {p : Prop} {w w1 : World} {e : Ending} {w' : World} (h : Tells p w1 e w') (hb : Below w.heap.size w w1) : Tells p w e w' := by
  obtain ⟨v, h1, h2, h3⟩ := h
  exact ⟨v, h1, h2, bthen hb h3⟩

end Go.Proofs.Ytfimdhbcifjioaa
