/- Chapter 8: contracts of DeltaFor, both sides (gen_evd.py). -/
import Derived.Test.YtfmegkkllebgfaaDoorEvA
import Derived.Test.YtfmegkkllebgfaaDoorEvK
import Derived.Test.YtfmegkkllebgfaaDoorGraC
namespace Go.Proofs.YtfmegkkllebgfaaDoor
open Go.RowKit
set_option linter.unusedVariables false
/-- the answer is a list of events -/
def AnsE (R : List Ev) (w : World) (e : Ending) (w' : World) : Prop := ∃ A' c', e = .returned (.slice A' R.length c') ∧ OR w' w.heap.size 33 A' (evV R) ∧ Below w.heap.size w w'
theorem src_ev {w : World} {B : Nat} {A : Option Addr} {l : List Ev} (h : evL w B A l) : Src w A l.length 7 (evV l) where
  len := by rw [evV_len]; omega
  one := ev_one
  nil := fun e => by subst e; rw [ev_none h]; rfl
  at_ := fun ad e j u hu => by subst e; exact ev_news h j u hu
def newE (ks : List Int) (e : Ev) : Bool := decide ((ks[e.nod.toNat]?).getD 0 < e.seq)
def delN (l : List Ev) (ks : List Int) (k : Nat) : List Ev := (l.take k).filter (newE ks)
def deltaE (l : List Ev) (ks : List Int) : List Ev := if jrnB l && (ks.length == 6) then l.filter (newE ks) else []
theorem delN_yes {l : List Ev} {ks : List Int} {k : Nat} {x : Ev} (hx : l[k]? = some x) (h : newE ks x = true) : delN l ks (k + 1) = delN l ks k ++ [x] := by
  unfold delN; rw [List.take_add_one, hx]; simp [h]
theorem delN_no {l : List Ev} {ks : List Int} {k : Nat} {x : Ev} (hx : l[k]? = some x) (h : newE ks x = false) : delN l ks (k + 1) = delN l ks k := by
  unfold delN; rw [List.take_add_one, hx]; simp [h]
theorem delN_len (l : List Ev) (ks : List Int) (k : Nat) : (delN l ks k).length ≤ k := by
  unfold delN; exact Nat.le_trans (List.length_filter_le _ _) (List.length_take_le _ _)
theorem deltaE_len (l : List Ev) (ks : List Int) : (deltaE l ks).length ≤ l.length := by
  unfold deltaE; split
  · exact List.length_filter_le _ _
  · exact Nat.zero_le _
theorem deltaE_bad {l : List Ev} {ks : List Int} (h : jrnB l = false ∨ ks.length ≠ 6) : deltaE l ks = [] := by
  unfold deltaE; rw [if_neg]; rcases h with h | h <;> simp [h]
theorem deltaE_good {l : List Ev} {ks : List Int} (h : jrnB l = true) (h6 : ks.length = 6) : deltaE l ks = delN l ks l.length := by
  unfold deltaE delN; rw [if_pos (by simp [h, h6]), List.take_length]
theorem deltaE_sub {l : List Ev} {ks : List Int} : (deltaE l ks).Sublist l := by
  unfold deltaE; split
  · exact List.filter_sublist
  · exact List.nil_sublist _
theorem ev_own_new (w : World) (base : Nat) (h : base ≤ w.heap.size) : (w.alloc (.cells #[] 33)).ownsRow base 33 7 (.slice (some ⟨w.heap.size, 0, none⟩) 0 0) 0 (evV []) := owns_new w base _ 7 h

theorem own_drewN {w : World} {base size n : Nat} {e : TypeId} {v : Value} {xs : List Value} (h : w.ownsRow base e size v n xs) (m : Nat) : (w.drewN m).ownsRow base e size v n xs := h
end Go.Proofs.YtfmegkkllebgfaaDoor
