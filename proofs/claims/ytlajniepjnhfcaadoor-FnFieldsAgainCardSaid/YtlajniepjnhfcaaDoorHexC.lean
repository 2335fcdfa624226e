/- Chapter 1: contracts of the value of a hexadecimal digit. -/
import Derived.Test.YtlajniepjnhfcaaDoorHexA
import Derived.Laws.RangeString
import Derived.Laws.RangeAny
namespace Go.Proofs.YtlajniepjnhfcaaDoor
open Go.RowKit
set_option linter.unusedVariables false
theorem ret_i {a b : Int} (h : a = b) : Ending.returned (.int .i64 a) = .returned (.int .i64 b) := by rw [h]
def hv (x : Int) : Int := if x < 48 then -1 else if x ≤ 57 then x - 48 else if x < 97 then -1 else if x ≤ 102 then x - 87 else -1
theorem hv_bd (x : Int) : -1 ≤ hv x ∧ hv x ≤ 15 := by unfold hv; repeat (first | omega | split)

theorem digit_at (m : Nat) (hp : m < ({ data := #[48, 49, 50, 51, 52, 53, 54, 55, 56, 57, 97, 98, 99, 100, 101, 102] } : ByteArray).size) : (({ data := #[48, 49, 50, 51, 52, 53, 54, 55, 56, 57, 97, 98, 99, 100, 101, 102] } : ByteArray)[m]'hp).toNat < 128 ∧ hv ((({ data := #[48, 49, 50, 51, 52, 53, 54, 55, 56, 57, 97, 98, 99, 100, 101, 102] } : ByteArray)[m]'hp).toNat : Int) = m := by
  have hm : m < 16 := hp
  rcases m with _ | _ | _ | _ | _ | _ | _ | _ | _ | _ | _ | _ | _ | _ | _ | _ | m
  all_goals first | exact ⟨Nat.le_of_ble_eq_true rfl, rfl⟩ | omega
def NoneOf (x : Int) (pos : Nat) : Prop := ∀ m, m < pos → ∀ hp : m < ({ data := #[48, 49, 50, 51, 52, 53, 54, 55, 56, 57, 97, 98, 99, 100, 101, 102] } : ByteArray).size, ((({ data := #[48, 49, 50, 51, 52, 53, 54, 55, 56, 57, 97, 98, 99, 100, 101, 102] } : ByteArray)[m]'hp).toNat : Int) ≠ x
theorem none_end (x : Int) (h : NoneOf x 16) : hv x = -1 := by
  have g : ∀ m (hm : m < 16), ((({ data := #[48, 49, 50, 51, 52, 53, 54, 55, 56, 57, 97, 98, 99, 100, 101, 102] } : ByteArray)[m]'hm).toNat : Int) ≠ x := fun m hm => h m hm hm
  have e0 : ¬ (48 : Int) = x := g 0 (by decide)
  have e1 : ¬ (49 : Int) = x := g 1 (by decide)
  have e2 : ¬ (50 : Int) = x := g 2 (by decide)
  have e3 : ¬ (51 : Int) = x := g 3 (by decide)
  have e4 : ¬ (52 : Int) = x := g 4 (by decide)
  have e5 : ¬ (53 : Int) = x := g 5 (by decide)
  have e6 : ¬ (54 : Int) = x := g 6 (by decide)
  have e7 : ¬ (55 : Int) = x := g 7 (by decide)
  have e8 : ¬ (56 : Int) = x := g 8 (by decide)
  have e9 : ¬ (57 : Int) = x := g 9 (by decide)
  have f0 : ¬ (97 : Int) = x := g 10 (by decide)
  have f1 : ¬ (98 : Int) = x := g 11 (by decide)
  have f2 : ¬ (99 : Int) = x := g 12 (by decide)
  have f3 : ¬ (100 : Int) = x := g 13 (by decide)
  have f4 : ¬ (101 : Int) = x := g 14 (by decide)
  have f5 : ¬ (102 : Int) = x := g 15 (by decide)
  unfold hv
  repeat (first | omega | split)

end Go.Proofs.YtlajniepjnhfcaaDoor
