/- Chapter 8: AddEvent of the model (gen_eve.py). -/
import Derived.Test.YtgmdplhaofhliaaDoorEvD
import Derived.Test.YtgmdplhaofhliaaDoorEvG
import Derived.Test.YtgmdplhaofhliaaDoorAny
import Derived.Deep.DeepMust
namespace Go.Proofs.YtgmdplhaofhliaaDoor
open Go.RowKit
set_option linter.unusedVariables false
/-- the answer is a list of events and a flag -/
def AnsE2 (R : List Ev × Bool) (w : World) (e : Ending) (w' : World) : Prop := ∃ A' c', R.1.length ≤ c' ∧ e = .returned (.tuple #[.slice A' R.1.length c', .bool R.2]) ∧ OR w' w.heap.size 34 A' (evV R.1) ∧ Below w.heap.size w w'
theorem oi_set8 {w : World} {lo hi b : Nat} {e : TypeId} {A : Option Addr} {xs : List Value} (h : OI w lo hi e A xs) (hb : b < lo ∨ hi ≤ b) (i : Nat) (v : Value) : OI (w.setCell ⟨b, i, none⟩ v) lo hi e A xs := by
  rcases h with h | ⟨g, cur, hA, h1, h2, hh, hc⟩
  · exact .inl h
  · exact .inr ⟨g, cur, hA, h1, h2, has_far hh (show g ≠ b by omega) _, hc⟩
theorem own_cap8 {w : World} {base size n m c : Nat} {e : TypeId} {A : Option Addr} {xs : List Value} (h : w.ownsRow base e size (.slice A n c) m xs) : n ≤ c := by
  rcases h.2 with ⟨e1, h0⟩ | ⟨g, cap, cur, e1, _, _, hcap, _⟩
  · injection e1 with _ e2 _; rw [e2]; exact Nat.zero_le _
  · injection e1 with _ e2 e3; rw [e2, e3]; exact hcap
theorem cells78 (W : World) : (sizeOf 34).run Tryd.prog W = .ok 7 W := by kernel_rfl
def dropA (A : Option Addr) (c q : Nat) : Option Addr := if c = q then A else A.map (fun a => a.add (q * 7))
/-- the piece of a list in front of a place, and the one behind it -/
theorem piece1 (A : Option Addr) (n c q : Nat) (hq : q ≤ c) (W : World) : (Instr.slice 24 (.slice A n c) none (some (.int .i64 (q : Int))) none).run Tryd.prog W = .ok (.slice A q c) W := by
  have h1 : (q : Int) ≤ c := by omega
  have h2 : (0 : Int) ≤ q := by omega
  simp [Instr.slice, Instr.sliceBounds, Instr.sliceBound, asIntOf, run_underlying Tryd.underlying24, cells78, go_sem, h1, h2]
  intro h; omega
theorem piece2 (A : Option Addr) (n c q : Nat) (hq : q ≤ n) (W : World) : (Instr.slice 24 (.slice A n c) (some (.int .i64 (q : Int))) none none).run Tryd.prog W = .ok (.slice (dropA A c q) (n - q) (c - q)) W := by
  have h1 : (q : Int) ≤ n := by omega
  have h2 : (0 : Int) ≤ q := by omega
  simp [Instr.slice, Instr.sliceBounds, Instr.sliceBound, asIntOf, run_underlying Tryd.underlying24, cells78, go_sem, h1, h2, dropA]
  intro h; omega
theorem src_evn {w : World} {B n : Nat} {A : Option Addr} {l : List Ev} (hn : l.length = n) (h : evL w B A l) : Src w A n 7 (evV l) := hn ▸ src_ev h
theorem own_kept9 {w w' : World} {base : Nat} {e : TypeId} {size n : Nat} {v : Value} {xs : List Value} (h : w.ownsRow base e size v n xs) (hb : Below w.heap.size w w') : w'.ownsRow base e size v n xs :=
  h.kept (row := none) ⟨hb.os, hb.tape, hb.output, hb.size, fun k hk _ => hb.block k hk⟩ (by cases v.ownBlock <;> simp)
theorem src_has8 {w : World} {gs : Nat} {e : TypeId} {cs : Array Value} (h : Has w gs e cs) (size : Nat) (hs : cs.size = size) (h1 : ∀ u ∈ cs.toList, u.oneCell' = true) : Src w (some ⟨gs, 0, none⟩) 1 size cs.toList where
  len := by simp [hs]
  one := h1
  nil := fun e => by cases e
  at_ := fun ad e j u hu => by
    injection e with e; subst e
    rw [addr_ev, Nat.zero_add]
    exact has_cell h j (by simpa using hu)
theorem below_grow8 {B : Nat} {w0 w w' : World} {row : Option Nat} (h : Below B w0 w) (hg : w.grownBy w' row) (hB : B ≤ w.heap.size) (hr : ∀ b, row = some b → B ≤ b) : Below B w0 w' := h.grown hg hB hr
theorem evL_take {w : World} {B : Nat} {A : Option Addr} {l : List Ev} (h : evL w B A l) (m : Nat) : evL w B A (l.take m) := by
  rcases h with h | ⟨b', off', e, hlt, hc⟩
  · exact .inl (by rw [h]; simp)
  · exact .inr ⟨b', off', e, hlt, fun k x hx => hc k x (by
      rw [List.getElem?_take] at hx; split at hx
      · exact hx
      · cases hx)⟩
theorem evL_drop {w : World} {B c m : Nat} {A : Option Addr} {l : List Ev} (h : evL w B A l) (hc9 : l.length ≤ c) : evL w B (dropA A c m) (l.drop m) := by
  rcases h with h | ⟨b, off, rfl, hlt, hc⟩
  · exact .inl (by rw [h]; simp)
  · by_cases hcm : c = m
    · exact .inl (List.drop_eq_nil_of_le (by omega))
    · unfold dropA; rw [if_neg hcm]
      refine .inr ⟨b, off + m * 7, by simp [addr_ev], hlt, fun k x hx => ?_⟩
      have := hc (m + k) x (by simpa using hx)
      rw [show off + m * 7 + k * 7 = off + (m + k) * 7 by omega]
      exact this
end Go.Proofs.YtgmdplhaofhliaaDoor
