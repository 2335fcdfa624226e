/- Chapter 7: the laws' own helpers over rounds: copies, comparisons, marks (gen_touh.py). -/
import Derived.Test.YtfimdhbcifjioaaTouE
import Derived.Deep.RegionHeld3
import Derived.Deep.DeepMust
import Derived.WalkLawsBesides
namespace Go.Proofs.Ytfimdhbcifjioaa
open Go.RowKit
set_option linter.unusedVariables false

/-- a copy of a round's lists, in blocks of its own from lo to hi -/
structure RdCo (w : World) (lo hi : Nat) (AL : Option Addr) (R : List Rw) (AS : Option Addr) (S : List Sp) : Prop where
  rows : R = [] ∨ ∃ (g : Nat) (cs : Array Value), AL = some ⟨g, 0, none⟩ ∧ lo ≤ g ∧ g < hi ∧ Has w g 29 cs ∧ ∀ (j : Nat) (x : Rw), R[j]? = some x → cs[j]? = some (.slice x.A x.l.length x.c)
  vals : ∀ x ∈ R, OI w lo hi 3 x.A (intV x.l)
  stops : OI w lo hi 50 AS (spV S)
theorem RdCo.within {w w' : World} {lo hi a b : Nat} {AL AS : Option Addr} {R : List Rw} {S : List Sp} (h : RdCo w lo hi AL R AS S) (hw : Within a b w w') (ho : hi ≤ a ∨ b ≤ lo) : RdCo w' lo hi AL R AS S := by
  refine ⟨?_, fun x hx => hw.oi (h.vals x hx) (by omega), hw.oi h.stops (by omega)⟩
  rcases h.rows with h1 | ⟨g, cs, e, h2, h3, h4, h5⟩
  · exact .inl h1
  · exact .inr ⟨g, cs, e, h2, h3, hw.has h4 (by omega), h5⟩
theorem RdCo.call {w w' : World} {lo hi : Nat} {AL AS : Option Addr} {R : List Rw} {S : List Sp} (h : RdCo w lo hi AL R AS S) (hb : Below w.heap.size w w') : RdCo w' lo hi AL R AS S := by
  refine ⟨?_, fun x hx => (h.vals x hx).call hb, h.stops.call hb⟩
  rcases h.rows with h1 | ⟨g, cs, e, h2, h3, h4, h5⟩
  · exact .inl h1
  · exact .inr ⟨g, cs, e, h2, h3, has_call h4 hb, h5⟩
theorem RdCo.in_ {w : World} {lo hi : Nat} {AL AS : Option Addr} {R : List Rw} {S : List Sp} (h : RdCo w lo hi AL R AS S) (hs : SmallRd R S) : RdIn w w.heap.size AL R AS S := by
  unfold SmallRd at hs
  refine ⟨?_, fun x hx => ⟨(h.vals x hx).il, ?_⟩, h.stops.sp, by unfold maxLen; omega, by unfold maxLen; omega⟩
  · rcases h.rows with h1 | ⟨g, cs, rfl, h2, h3, h4, h5⟩
    · exact .inl h1
    · exact .inr ⟨g, 0, rfl, has_lt h4, fun k x hx => by rw [Nat.zero_add]; exact has_cell h4 k (h5 k x hx)⟩
  · have := totR_mem (G := gOf R) (List.mem_map_of_mem (f := Rw.l) hx)
    unfold maxLen; omega
theorem RdCo.wider {w : World} {lo hi lo' hi' : Nat} {AL AS : Option Addr} {R : List Rw} {S : List Sp} (h : RdCo w lo hi AL R AS S) (h1 : lo' ≤ lo) (h2 : hi ≤ hi') : RdCo w lo' hi' AL R AS S := by
  have oi : ∀ {e A xs}, OI w lo hi e A xs → OI w lo' hi' e A xs := fun h => by
    rcases h with h | ⟨g, cur, e, h3, h4, h5, h6⟩
    · exact .inl h
    · exact .inr ⟨g, cur, e, by omega, by omega, h5, h6⟩
  refine ⟨?_, fun x hx => oi (h.vals x hx), oi h.stops⟩
  rcases h.rows with h0 | ⟨g, cs, e, h3, h4, h5, h6⟩
  · exact .inl h0
  · exact .inr ⟨g, cs, e, by omega, by omega, h5, h6⟩
/-- block g holds the first of n rows -/
structure CopiedR (w : World) (g : Nat) (cs : Array Value) (R : List Rw) (n : Nat) : Prop where
  heap : Has w g 29 cs
  size : cs.size = n
  got : ∀ (j : Nat) (x : Rw), R[j]? = some x → cs[j]? = some (.slice x.A x.l.length x.c)
theorem CopiedR.step {w : World} {g : Nat} {cs : Array Value} {R : List Rw} {n : Nat} (h : CopiedR w g cs R n) (hk : R.length < n) (x : Rw) :
    CopiedR (w.setCell ⟨g, R.length, none⟩ (.slice x.A x.l.length x.c)) g (cs.setIfInBounds R.length (.slice x.A x.l.length x.c)) (R ++ [x]) n := by
  refine ⟨has_set h.heap _ _, by simp [h.size], fun j y hy => ?_⟩
  rw [Array.getElem?_setIfInBounds]
  rcases Nat.lt_or_ge j R.length with hj | hj
  · rw [List.getElem?_append_left hj] at hy
    rw [if_neg (by omega)]; exact h.got j y hy
  · rw [List.getElem?_append_right hj] at hy
    have hjl : j = R.length := by
      have := (List.getElem?_eq_some_iff.1 hy).1
      simp at this; omega
    subst hjl
    simp at hy
    subst hy
    rw [if_pos rfl, if_pos (by rw [h.size]; exact hk)]
theorem gOf_snoc {R R' : List Rw} {k : Nat} {x y : Rw} (h : gOf R' = gOf (R.take k)) (hx : R[k]? = some x) (hy : y.l = x.l) : gOf (R' ++ [y]) = gOf (R.take (k + 1)) := by
  have e : gOf (R.take (k + 1)) = gOf (R.take k) ++ [x.l] := by simp [gOf, List.take_add_one, hx]
  rw [e, ← h]; simp [gOf, hy]
theorem issInfo : (Try.prog.info? 29).map (fun i => (i.zero, i.size, i.bytes)) = some (some (.slice none 0 0), 1, 24) := by kernel_rfl
theorem OR.rng {w w' : World} {lo : Nat} {e : TypeId} {A : Option Addr} {xs : List Value} (h : OR w lo e A xs) (hb : Below w.heap.size w w') : OI w' lo w'.heap.size e A xs := OI.of_or (h.below hb)

theorem small_copy {R R' : List Rw} {S : List Sp} (h : SmallRd R S) (hg : gOf R' = gOf R) : SmallRd R' S := by
  have hl : R'.length = R.length := by have := congrArg List.length hg; simpa [gOf] using this
  unfold SmallRd at h ⊢; rw [hg, hl]; exact h
theorem len_copy {R R' : List Rw} (hg : gOf R' = gOf R) : R'.length = R.length := by have := congrArg List.length hg; simpa [gOf] using this
end Go.Proofs.Ytfimdhbcifjioaa
