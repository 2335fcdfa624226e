/- Chapter 5: contracts of AddGrant, both sides (gen_grc.py). -/
import Derived.Test.YtdcejkompdbliaaDoorGraB
import Derived.Test.YtdcejkompdbliaaDoorGraK
import Derived.Test.YtdcejkompdbliaaDoorOwn
import Derived.Deep.Onto
namespace Go.Proofs.YtdcejkompdbliaaDoor
open Go.RowKit
set_option linter.unusedVariables false
def addG (l : List Gr) (g : Gr) : List Gr × Bool := if grantsB l && (l.length != 30) && grantB g && !g.off then (l ++ [g], true) else (l, false)
theorem own_or {w : World} {base size n c : Nat} {e : TypeId} {A : Option Addr} {xs : List Value} (h : w.ownsRow base e size (.slice A n c) n xs) : OR w base e A xs := by
  obtain ⟨A', c', e1, h1⟩ := or_own h
  injection e1 with e1 _ _; subst e1; exact h1
theorem src_gr {w : World} {B : Nat} {A : Option Addr} {l : List Gr} (h : grL w B A l) : Src w A l.length 7 (grV l) where
  len := by rw [grV_len]; omega
  one := gr_one
  nil := fun e => by subst e; rw [gr_none h]; rfl
  at_ := fun ad e j u hu => by subst e; exact gr_news h j u hu
theorem src_box (w : World) (e : TypeId) (cs : Array Value) (size : Nat) (hs : cs.size = size) (h1 : ∀ u ∈ cs.toList, u.oneCell' = true) : Src (w.alloc (.cells cs e)) (some ⟨w.heap.size, 0, none⟩) 1 size cs.toList where
  len := by simp [hs]
  one := h1
  nil := fun e => by cases e
  at_ := fun ad e j u hu => by
    injection e with e; subst e
    rw [addr_gr, Nat.zero_add]
    exact has_cell (has_new w _ _) j (by simpa using hu)
theorem own_kept {w w' : World} {base : Nat} {e : TypeId} {size n : Nat} {v : Value} {xs : List Value} (h : w.ownsRow base e size v n xs) (hb : Below w.heap.size w w') : w'.ownsRow base e size v n xs :=
  h.kept (row := none) ⟨hb.os, hb.tape, hb.output, hb.size, fun k hk _ => hb.block k hk⟩ (by cases v.ownBlock <;> simp)
theorem addG_no {l : List Gr} {g : Gr} (h : grantsB l = false ∨ l.length = 30 ∨ grantB g = false ∨ g.off = true) : addG l g = (l, false) := by
  unfold addG; rw [if_neg]; rcases h with h | h | h | h <;> simp [h]
theorem addG_yes {l : List Gr} {g : Gr} (h1 : grantsB l = true) (h2 : l.length ≠ 30) (h3 : grantB g = true) (h4 : g.off = false) : addG l g = (l ++ [g], true) := by
  unfold addG; rw [if_pos]; simp [h1, h2, h3, h4]

end Go.Proofs.YtdcejkompdbliaaDoor
