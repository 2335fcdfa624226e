/- Chapter 2: the program fills a gap. -/
import Derived.Test.YthmbpcnpmfiaoaaGapG
namespace Go.Proofs.Ythmbpcnpmfiaoaa
open Go.RowKit
set_option linter.unusedVariables false

/-- the tiers from a gap on, behind the filling -/
def FillPost (w : World) (lo g : Nat) (gs : List Nat) (x : Bx) (fx : Bool) (p size : Int) (l : List Bx) (e : Ending) (w' : World) : Prop :=
  ∃ m gs' l', e = .returned (.tuple #[]) ∧ Has w' g 85 (tierC ⟨⟨x.low, size, p, x.jam⟩, fx⟩ m) ∧ TL w' lo m gs' l' ∧ l'.map Tr.x = l ∧ (∀ b ∈ gs', b ∈ gs ∨ w.heap.size ≤ b) ∧ Only w g w'
theorem tier_set3 {w : World} {g : Nat} {t : Tr} {m : Option Addr} (h : Has w g 85 (tierC t m)) (s p : Int) (m' : Option Addr) :
    Has (((w.setCell ⟨g, 1, none⟩ (.int .i64 s)).setCell ⟨g, 2, none⟩ (.int .i64 p)).setCell ⟨g, 5, none⟩ (.pointer m')) g 85 (tierC ⟨⟨t.x.low, s, p, t.x.jam⟩, t.fx⟩ m') := by
  have := has_set (has_set (has_set h 1 (.int .i64 s)) 2 (.int .i64 p)) 5 (.pointer m')
  simpa [tierC] using this

theorem sumZ_app (l r : List Bx) : sumZ (l ++ r) = sumZ l + sumZ r := by simp [sumZ]
/-- what is left of a gap -/
def restL (lo size all : Int) : List Bx := if size < all then [⟨lo + size, all - size, 0, false⟩] else []
theorem only_trans2 {a w w' : World} {g : Nat} (h : Only a g w) (hb : Below w.heap.size w w') : Only a g w' :=
  ⟨hb.os.trans h.os, hb.tape.trans h.tape, hb.output.trans h.output, Nat.le_trans h.size hb.size, fun k hk hne => (hb.block k (Nat.lt_of_lt_of_le hk h.size)).trans (h.block k hk hne)⟩
end Go.Proofs.Ythmbpcnpmfiaoaa
