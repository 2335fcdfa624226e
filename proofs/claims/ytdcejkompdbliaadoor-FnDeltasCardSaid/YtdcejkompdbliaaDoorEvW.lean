/- Chapter 8: OrderOf of the model (gen_evw.py). -/
import Derived.Test.YtdcejkompdbliaaDoorEvA
import Derived.Test.YtdcejkompdbliaaDoorEvQ
import Derived.Test.YtdcejkompdbliaaDoorGraC
namespace Go.Proofs.YtdcejkompdbliaaDoor
open Go.RowKit
set_option linter.unusedVariables false
/-- the answer is a list of numbers -/
def AnsO (R : List Int) (w : World) (e : Ending) (w' : World) : Prop := ∃ A' c', e = .returned (.slice A' R.length c') ∧ OR w' w.heap.size 3 A' (intV R) ∧ Below w.heap.size w w'
theorem owned_drewN {w : World} {base size n : Nat} {e : TypeId} {v : Value} {xs : List Value} (h : w.ownsRow base e size v n xs) (m : Nat) : (w.drewN m).ownsRow base e size v n xs := h
theorem natV_len (L : List Nat) : (intV (natI L)).length = L.length := by rw [intV_len, natI_len]
theorem natV_at {L : List Nat} {k i : Nat} (h : L[k]? = some i) : (intV (natI L))[k]? = some (.int .i64 (i : Int)) := intV_at (natI_at h)
theorem natV_set (L : List Nat) (k x : Nat) : (intV (natI L)).set k (.int .i64 (x : Int)) = intV (natI (L.set k x)) := by simp [intV, natI, List.map_set]
theorem ins_swap (pre post : List Nat) (p i : Nat) : (((pre ++ [p]) ++ i :: post).set (pre.length + 1) p).set pre.length i = pre ++ i :: p :: post := by
  induction pre with
  | nil => simp
  | cons a r ih => simp [ih]
theorem snoc_of {pre : List Nat} (h : 0 < pre.length) : ∃ pr p, pre = pr ++ [p] := by
  rcases List.eq_nil_or_concat pre with e | ⟨q, x, e⟩
  · rw [e] at h; simp at h
  · exact ⟨q, x, by rw [e, List.concat_eq_append]⟩
theorem ins_at1 (pre post : List Nat) (p i : Nat) : ((pre ++ [p]) ++ i :: post)[pre.length]? = some p := by simp
theorem ins_at2 (pre post : List Nat) (p i : Nat) : ((pre ++ [p]) ++ i :: post)[pre.length + 1]? = some i := by simp

end Go.Proofs.YtdcejkompdbliaaDoor
