/- Chapter 1: contracts of the two DecodeHex. -/
import Derived.Test.YtlajniepjnhfcaaDoorHexC
import Derived.Laws.MakeOwn
import Derived.Deep.DeepMust
namespace Go.Proofs.YtlajniepjnhfcaaDoor
open Go.RowKit
set_option linter.unusedVariables false
def bt (s : ByteArray) (j : Nat) : Int := ((s.data.toList.getD j 0).toNat : Int)
theorem bt_at {s : ByteArray} {j : Nat} (h : j < s.size) : (s[j].toNat : Int) = bt s j := by
  unfold bt
  have hl : j < s.data.toList.length := by simpa using h
  rw [List.getD_eq_getElem?_getD, List.getElem?_eq_getElem hl]
  simp; rfl
theorem bt_bd (s : ByteArray) (j : Nat) : 0 ≤ bt s j ∧ bt s j < 256 := by
  unfold bt
  have := (s.data.toList.getD j 0).toNat_lt
  omega
def hi (s : ByteArray) (k : Nat) : Int := hv (bt s (2 * k))
def lo (s : ByteArray) (k : Nat) : Int := hv (bt s (2 * k + 1))
def goodP (s : ByteArray) (k : Nat) : Bool := decide (0 ≤ hi s k) && decide (0 ≤ lo s k)
def pairs (s : ByteArray) (n : Nat) : List Int := (List.range n).map fun j => 16 * hi s j + lo s j
def allGood (s : ByteArray) : Bool := (List.range (s.size / 2)).all (goodP s)
def decV (s : ByteArray) : Value := if s.size % 2 = 0 ∧ s.size ≤ 40000 ∧ allGood s = true then .tuple #[.string (strOfNums (pairs s (s.size / 2))), .bool true] else .tuple #[.string ⟨#[]⟩, .bool false]
theorem dec_size (s : ByteArray) (h : s.size % 2 ≠ 0 ∨ 40000 < s.size) : decV s = .tuple #[.string ⟨#[]⟩, .bool false] := if_neg (by omega)
theorem dec_bad (s : ByteArray) (k : Nat) (hk : 2 * k < s.size) (h2 : s.size % 2 = 0) (hb : hi s k < 0 ∨ lo s k < 0) : decV s = .tuple #[.string ⟨#[]⟩, .bool false] := by
  refine if_neg fun h => ?_
  have := List.all_eq_true.1 h.2.2 k (List.mem_range.2 (by omega))
  simp [goodP] at this
  omega
theorem dec_good (s : ByteArray) (h2 : s.size % 2 = 0) (h4 : s.size ≤ 40000) (hg : ∀ j, j < s.size / 2 → goodP s j = true) : decV s = .tuple #[.string (strOfNums (pairs s (s.size / 2))), .bool true] :=
  if_pos ⟨h2, h4, List.all_eq_true.2 fun j hj => hg j (List.mem_range.1 hj)⟩
theorem pairs_succ (s : ByteArray) (n : Nat) : pairs s (n + 1) = pairs s n ++ [16 * hi s n + lo s n] := by simp [pairs, List.range_succ]
theorem good_succ (s : ByteArray) (k : Nat) (h : ∀ j, j < k → goodP s j = true) (h1 : 0 ≤ hi s k) (h2 : 0 ≤ lo s k) : ∀ j, j < k + 1 → goodP s j = true := fun j hj => by
  rcases Nat.lt_or_ge j k with h' | h'
  · exact h j h'
  · have : j = k := by omega
    subst this
    simp [goodP, h1, h2]
theorem row_succ {s : ByteArray} {k : Nat} {w : World} {base : Nat} {v : Value} (h : w.ownsRow base 5 1 v (k + 1) (vals (pairs s k) ++ [.int .u8 (16 * hi s k + lo s k)])) :
    w.ownsRow base 5 1 v (k + 1) (vals (pairs s (k + 1))) := by
  rw [pairs_succ]; simpa [vals] using h
theorem own_below0 {w wr wb w1 : World} {v : Value} {e : TypeId} {size n : Nat} {xs : List Value} (hb : Below w.heap.size w wr) (hown : wr.ownsRow w.heap.size e size v n xs) (hwb : Below wr.heap.size wr wb) (hg : wb.grownBy w1 v.ownBlock) : Below w.heap.size w w1 :=
  (bthen hb hwb).grown hg (Nat.le_trans hb.size hwb.size) (fun k hk => (hown.lt k hk).1)

end Go.Proofs.YtlajniepjnhfcaaDoor
