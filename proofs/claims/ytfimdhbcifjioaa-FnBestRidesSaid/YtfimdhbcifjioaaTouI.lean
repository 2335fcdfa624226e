/- Chapter 7: marks over rounds (gen_toui.py). -/
import Derived.Test.YtfimdhbcifjioaaTouH
import Derived.Deep.RegionHeld3
import Derived.Deep.DeepMust
import Derived.WalkLawsBesides
namespace Go.Proofs.Ytfimdhbcifjioaa
open Go.RowKit
set_option linter.unusedVariables false

/-- the row can be marked -/
def RowCan (w : World) (lo hi : Nat) (x : Rw) : Prop := x.l = [] ∨ ∃ (g : Nat) (cur : Array Value), x.A = some ⟨g, 0, none⟩ ∧ lo ≤ g ∧ g < hi ∧ Has w g 3 cur ∧ x.l.length ≤ cur.size
/-- rows of numbers keep their sizes, other blocks what they hold -/
def KeepI (w w' : World) : Prop := ∀ (g : Nat) (cur : Array Value), Has w g 3 cur → ∃ cur', Has w' g 3 cur' ∧ cur'.size = cur.size
def KeepO (w w' : World) : Prop := ∀ (g : Nat) (t : TypeId) (cs : Array Value), Has w g t cs → t ≠ 3 → Has w' g t cs
theorem RowCan.keep {w w' : World} {lo hi : Nat} {x : Rw} (h : RowCan w lo hi x) (hk : KeepI w w') : RowCan w' lo hi x := by
  rcases h with h | ⟨g, cur, h1, h2, h3, h4, h5⟩
  · exact .inl h
  · obtain ⟨cur', h6, h7⟩ := hk g cur h4
    exact .inr ⟨g, cur', h1, h2, h3, h6, by omega⟩
theorem rowCan_of {w : World} {lo hi : Nat} {x : Rw} (h : OI w lo hi 3 x.A (intV x.l)) : RowCan w lo hi x := by
  rcases h with h | ⟨g, cur, h1, h2, h3, h4, h5⟩
  · exact .inl (intV_nil h)
  · rcases Nat.eq_zero_or_pos x.l.length with h0 | h0
    · exact .inl (List.eq_nil_of_length_eq_zero h0)
    · refine .inr ⟨g, cur, h1, h2, h3, h4, ?_⟩
      have := (Array.getElem?_eq_some_iff.1 (h5 _ _ (intV_at (List.getElem?_eq_getElem (show x.l.length - 1 < x.l.length by omega))))).1
      omega
/-- what a ride answers -/
def rideV (x : Option Dv) : List Int × Int × Bool := match x with | none => ([], 0, false) | some d => (d.begins, d.fin, true)
def AnsV (v : List Int × Int × Bool) (w : World) (e : Ending) (w' : World) : Prop := ∃ (A' : Option Addr) (c' : Nat), e = .returned (.tuple #[.slice A' v.1.length c', .int .i64 v.2.1, .bool v.2.2]) ∧ OR w' w.heap.size 3 A' (intV v.1) ∧ Below w.heap.size w w'

end Go.Proofs.Ytfimdhbcifjioaa
