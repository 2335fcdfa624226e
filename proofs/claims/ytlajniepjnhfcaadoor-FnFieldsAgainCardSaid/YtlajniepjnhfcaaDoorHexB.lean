/- Chapter 1: contract of the program's EncodeHex. -/
import Derived.Test.YtlajniepjnhfcaaDoorHexA
import Derived.Laws.MakeOwn
import Derived.Deep.RegionLaw
namespace Go.Proofs.YtlajniepjnhfcaaDoor
open Go.RowKit
set_option linter.unusedVariables false

theorem and15 (u : UInt8) : bits .and .u8 (u.toNat : Int) 15 = (u.toNat : Int) % 16 := by
  have h : bits .and .u8 (u.toNat : Int) ((15 : Nat) : Int) = ((u.toNat &&& 15 : Nat) : Int) := u8_and_nat u.toNat 15 u.toNat_lt (by omega)
  have e : u.toNat &&& 15 = u.toNat % 16 := Nat.and_two_pow_sub_one_eq_mod u.toNat 4
  rw [e] at h
  have : ((15 : Nat) : Int) = 15 := rfl
  rw [this] at h
  rw [h]; omega

theorem nib (i : Int) (h0 : 0 ≤ i) (h1 : i < 16) (hp : i.toNat < ({ data := #[48, 49, 50, 51, 52, 53, 54, 55, 56, 57, 97, 98, 99, 100, 101, 102] } : ByteArray).size) : ((({ data := #[48, 49, 50, 51, 52, 53, 54, 55, 56, 57, 97, 98, 99, 100, 101, 102] } : ByteArray)[i.toNat]'hp).toNat : Int) = fig i := by
  obtain ⟨n, rfl⟩ := Int.eq_ofNat_of_zero_le h0
  have hn : n < 16 := by omega
  have key : ∀ m, m < 16 → ∀ hp : m < ({ data := #[48, 49, 50, 51, 52, 53, 54, 55, 56, 57, 97, 98, 99, 100, 101, 102] } : ByteArray).size, ((({ data := #[48, 49, 50, 51, 52, 53, 54, 55, 56, 57, 97, 98, 99, 100, 101, 102] } : ByteArray)[m]'hp).toNat : Int) = fig (m : Int) := by
    intro m hm hp
    rcases m with _ | _ | _ | _ | _ | _ | _ | _ | _ | _ | _ | _ | _ | _ | _ | _ | m
    all_goals first | rfl | omega
  exact key n hn hp

end Go.Proofs.YtlajniepjnhfcaaDoor
