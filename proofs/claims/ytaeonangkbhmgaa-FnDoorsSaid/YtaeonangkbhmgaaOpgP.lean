/- Chapter 4: the law FnOpenings: plain facts. -/
import Derived.Test.YtaeonangkbhmgaaDorP
namespace Go.Proofs.Ytaeonangkbhmgaa
open Go.RowKit
set_option linter.unusedVariables false
/-- the door that is begun, behind n steps -/
def opA (b : Bool) : Nat → Dr
  | 0 => ⟨if b then 2 else 1, 1, false, false, b⟩
  | n + 1 => (advD (opA b n)).1
/-- the same behind t steps, and n steps of somebody who has changed their mind -/
def opR (b : Bool) (t : Nat) : Nat → Dr
  | 0 => opA b t
  | n + 1 => (relD (opR b t n)).1
def opB (d : Dr) : Nat → Dr
  | 0 => d
  | n + 1 => (advD (opB d n)).1
theorem opA_beg (b : Bool) : begD ⟨0, 0, false, false, b⟩ (if b then 2 else 1) = (opA b 0, true) := by cases b <;> decide
theorem opA_no (b : Bool) : begD ⟨0, 0, false, false, b⟩ (if b then 1 else 2) = (⟨0, 0, false, false, b⟩, false) := by cases b <;> decide
theorem opA_go (b : Bool) : ∀ n, n < 6 → (advD (opA b n)).2 = true ∧ (opA b (n + 1)).ok = true ∧ (0 ≤ (opA b n).s ∧ (opA b n).s ≤ 6) := by cases b <;> decide
theorem opA_end (b : Bool) : opA b 6 = ⟨0, 0, false, false, !b⟩ := by cases b <;> decide
theorem opR_end (b : Bool) : ∀ t, t < 4 → 1 ≤ t → ∀ n, n < 4 → ((opR b t n).s = 5 ∨ n = 3) → opB (opR b t n) 2 = ⟨0, 0, false, false, b⟩ := by cases b <;> decide
theorem stepV_some {s : Int} (h : 0 ≤ s ∧ s ≤ 6) : (stepV s).toList.isEmpty = false := by
  obtain ⟨n, rfl⟩ := Int.eq_ofNat_of_zero_le h.1
  have h7 : n < 7 := by omega
  have : ∀ n : Nat, n < 7 → (stepV n).data.toList.isEmpty = false := by decide
  rw [ByteArray.toList_eq]
  exact this n h7
theorem size_new (w : World) (t : TypeId) (cs : Array Value) : (w.alloc (.cells cs t)).heap.size = w.heap.size + 1 := by simp
theorem hs5 {W : World} {r : Nat} {T : TypeId} {x0 x1 x2 x3 x4 : Value} (h : Has W r T #[x0, x1, x2, x3, x4]) (a b c d e : Value) : Has (((((W.setCell ⟨r, 0, none⟩ a).setCell ⟨r, 1, none⟩ b).setCell ⟨r, 2, none⟩ c).setCell ⟨r, 3, none⟩ d).setCell ⟨r, 4, none⟩ e) r T #[a, b, c, d, e] := by
  simpa using has_set (has_set (has_set (has_set (has_set h 0 a) 1 b) 2 c) 3 d) 4 e
theorem os5 {w0 W : World} {r : Nat} (h : Only w0 r W) (a b c d e : Value) : Only w0 r (((((W.setCell ⟨r, 0, none⟩ a).setCell ⟨r, 1, none⟩ b).setCell ⟨r, 2, none⟩ c).setCell ⟨r, 3, none⟩ d).setCell ⟨r, 4, none⟩ e) :=
  only_set (only_set (only_set (only_set (only_set h 0 a) 1 b) 2 c) 3 d) 4 e
theorem bs5 {w W : World} {B r : Nat} (hr : B ≤ r) (a b c d e : Value) (hb : Below B w W) : Below B w (((((W.setCell ⟨r, 0, none⟩ a).setCell ⟨r, 1, none⟩ b).setCell ⟨r, 2, none⟩ c).setCell ⟨r, 3, none⟩ d).setCell ⟨r, 4, none⟩ e) :=
  ((((hb.setCell hr a).setCell hr b).setCell hr c).setCell hr d).setCell hr e
theorem hoo {w w' : World} {g h : Nat} {t : TypeId} {cs : Array Value} (k : Has w h t cs) (ho : Only w g w') (hne : h ≠ g) : Has w' h t cs := (ho.block h (has_lt k) (fun e => hne (by injection e))).trans k
end Go.Proofs.Ytaeonangkbhmgaa
