/- Chapter 1: the law FnHexText: what is drawn, and that the encoding of a string is decoded to it. -/
import Derived.Test.YtlajniepjnhfcaaDoorFmtD
import Derived.Test.YtlajniepjnhfcaaDoorHexE
import Derived.Test.YtlajniepjnhfcaaDoorDraw
namespace Go.Proofs.YtlajniepjnhfcaaDoor
open Go.RowKit
set_option linter.unusedVariables false

theorem hv_fig (x : Int) (h0 : 0 ≤ x) (h1 : x < 16) : hv (fig x) = x := by unfold hv fig; repeat (first | omega | split)
theorem hexL_at : ∀ (l : List UInt8) (k : Nat) (u : UInt8), l[k]? = some u → (hexL l)[2 * k]? = some (fig ((u.toNat : Int) / 16)) ∧ (hexL l)[2 * k + 1]? = some (fig ((u.toNat : Int) % 16))
  | [], k, u, h => by simp at h
  | a :: r, 0, u, h => by
    simp at h; subst h
    exact ⟨rfl, rfl⟩
  | a :: r, k + 1, u, h => by
    have ih := hexL_at r k u (by simpa using h)
    have e : hexL (a :: r) = fig ((a.toNat : Int) / 16) :: fig ((a.toNat : Int) % 16) :: hexL r := rfl
    rw [e, show 2 * (k + 1) = 2 * k + 1 + 1 by omega]
    exact ⟨by simpa using ih.1, by simpa using ih.2⟩
theorem bt_str (l : List Int) (j : Nat) (x : Int) (h0 : 0 ≤ x) (h1 : x < 256) (h : l[j]? = some x) : bt (strOfNums l) j = x := by
  unfold bt
  rw [List.getD_eq_getElem?_getD, strOfNums_data, List.getElem?_map, h]
  simp [UInt8.toNat_ofNat']; omega
theorem pairs_hex (s : ByteArray) : ∀ n, n ≤ s.size → pairs (strOfNums (hexL s.data.toList)) n = (s.data.toList.take n).map (fun u => (u.toNat : Int)) ∧ ∀ j, j < n → goodP (strOfNums (hexL s.data.toList)) j = true
  | 0, _ => ⟨rfl, fun j hj => absurd hj (by omega)⟩
  | n + 1, h => by
    obtain ⟨ih1, ih2⟩ := pairs_hex s n (by omega)
    have hl : n < s.data.toList.length := by rw [Array.length_toList]; exact h
    have hu : s.data.toList[n]? = some s.data.toList[n] := List.getElem?_eq_getElem hl
    generalize s.data.toList[n] = u at hu
    obtain ⟨h1, h2⟩ := hexL_at _ n u hu
    have hb := byteAt_lt u
    have f1 := fig_bd ((u.toNat : Int) / 16) (by omega) (by omega)
    have f2 := fig_bd ((u.toNat : Int) % 16) (by omega) (by omega)
    have e1 : hi (strOfNums (hexL s.data.toList)) n = (u.toNat : Int) / 16 := by
      unfold hi; rw [bt_str _ _ _ (by omega) (by omega) h1, hv_fig _ (by omega) (by omega)]
    have e2 : lo (strOfNums (hexL s.data.toList)) n = (u.toNat : Int) % 16 := by
      unfold lo; rw [bt_str _ _ _ (by omega) (by omega) h2, hv_fig _ (by omega) (by omega)]
    refine ⟨?_, good_succ _ n ih2 (by rw [e1]; omega) (by rw [e2]; omega)⟩
    rw [pairs_succ, ih1, e1, e2, List.take_add_one, hu]
    simp; omega
theorem dec_enc (s : ByteArray) (hs : s.size ≤ 20000) : decV (strOfNums (hexL s.data.toList)) = .tuple #[.string s, .bool true] := by
  have hz : (strOfNums (hexL s.data.toList)).size = 2 * s.size := by rw [strOfNums_size, hexL_len]; simp
  obtain ⟨h1, h2⟩ := pairs_hex s s.size (Nat.le_refl _)
  rw [dec_good _ (by omega) (by omega) (by rw [hz]; intro j hj; exact h2 j (by omega)), hz, show 2 * s.size / 2 = s.size by omega, h1]
  have : strOfNums ((s.data.toList.take s.size).map fun u => (u.toNat : Int)) = s := by
    have e : s.data.toList.take s.size = s.data.toList := List.take_of_length_le (by simp)
    rw [e]
    apply ByteArray.ext
    simp [strOfNums, Function.comp_def]
  rw [this]

def DrawnS (w : World) (e : Ending) (w' : World) : Prop := ∃ s : ByteArray, s.size ≤ 20001 ∧ e = .returned (.string s) ∧ Below w.heap.size w w'
end Go.Proofs.YtlajniepjnhfcaaDoor
