/- Chapter 1: FormatInt of the program (the shelf's contract of strconv.Itoa) against the model's. -/
import Derived.Test.YtlajniepjnhfcaaDoorFmtN
import Derived.Test.YtlajniepjnhfcaaDoorShelf
import Derived.WalkSmall
namespace Go.Proofs.YtlajniepjnhfcaaDoor
open Go.RowKit Go.Sort
set_option linter.unusedVariables false

theorem decR_digits : ∀ (f n : Nat), 0 < n → n < 10 ^ f → (decR f n).map (fun x : Int => UInt8.ofNat x.toNat) = Lib.decDigits n
  | 0, n, h0, h => by simp at h; omega
  | f + 1, n, h0, h => by
    have one : UInt8.ofNat ((48 + ((n % 10 : Nat) : Int)).toNat) = UInt8.ofNat (48 + n % 10) := by
      have : (48 + ((n % 10 : Nat) : Int)).toNat = 48 + n % 10 := by omega
      rw [this]
    rw [decR_step f n (by omega), List.map_append, List.map_cons, List.map_nil, one]
    by_cases hs : n < 10
    · rw [show n / 10 = 0 by omega, decR_zero, Lib.decDigits, dif_pos hs, Nat.mod_eq_of_lt hs]; rfl
    · rw [Lib.decDigits, dif_neg hs, decR_digits f (n / 10) (by omega) (by rw [Nat.pow_succ] at h; omega)]

theorem decN_digits (n : Nat) (h : n < 10 ^ 20) : (decN n).map (fun x : Int => UInt8.ofNat x.toNat) = Lib.decDigits n := by
  unfold decN
  by_cases h0 : n = 0
  · subst h0
    rw [if_pos rfl, Lib.decDigits, dif_pos (by omega)]; rfl
  · rw [if_neg h0]
    exact decR_digits 20 n (by omega) h

theorem itoa_text (n : Int) (h : -9223372036854775808 ≤ n) (h1 : n ≤ 9223372036854775807) : (⟨(Lib.itoa n).toArray⟩ : ByteArray) = strOfNums (decZ n) := by
  unfold Lib.itoa decZ strOfNums
  by_cases hn : n < 0
  · rw [if_pos hn, if_pos hn, List.map_cons, decN_digits _ (by omega)]; rfl
  · rw [if_neg hn, if_neg hn, decN_digits _ (by omega), show n.toNat = n.natAbs by omega]

theorem below_grow (B : Nat) (w : World) (k : Nat) (os : Array Obj) (h : B ≤ w.heap.size) : Below B w (grow (w.drewN k) os) := by
  refine ⟨rfl, rfl, rfl, ?_, fun j hj => ?_⟩
  · simp [grow, World.drewN]
  · have : j < w.heap.size := by omega
    simp [grow, World.drewN, Array.getElem?_append_left this]

set_option maxRecDepth 100000 in
/-- the program's, at every int -/
theorem fmtP_all (w : World) (n : Int) (h : -9223372036854775808 ≤ n) (h1 : n ≤ 9223372036854775807) (ht : Lib.TabIs Tryd.prog w "internal/strconv.uint64pow10" .u64 Lib.pow10Tab) :
    Calls Tryd.prog 8 #[.int .i64 n] w fun e w' => e = .returned (.string (strOfNums (decZ n))) ∧ Below w.heap.size w w' := by
  have hi := itoa_text n h h1
  go_enter Tryd.func8, Tryd.ntmps8
  go_wp2_with fail
  refine (Tryd.strconv_Itoa n h h1 w ht).mono ?_
  rintro e w1 ⟨rfl, k, os, rfl⟩
  rw [hi]
  go_wp2
  go_ret
  exact ⟨ret_eq rfl, below_grow _ _ _ _ (Nat.le_refl _)⟩

theorem gPow : Tryd.prog.globalNamed "internal/strconv.uint64pow10" = some 0 := by kernel_rfl

end Go.Proofs.YtlajniepjnhfcaaDoor
