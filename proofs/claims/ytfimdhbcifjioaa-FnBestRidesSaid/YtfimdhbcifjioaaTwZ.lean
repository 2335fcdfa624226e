/- Ranges over a function whose rounds are told what memory holds of the element (a premise V), and are never left. Wide fence, outermost loops. -/
import Derived.Test.YtfimdhbcifjioaaMem
import Derived.RangeFuncNested
import Derived.RangeFuncBound
import Derived.RangeFuncCalls
import Derived.RangeFuncLeaves
import Derived.Shelf.Abstract
import Derived.OwnWalkIn
namespace Go.Proofs.Ytfimdhbcifjioaa
open Go.RowKit Go.Shelf
set_option linter.unusedVariables false

/-- an iterator that goes through all its elements, where every round goes on; V: what holds of an element when it is handed over -/
def Goes {α : Type} (k : Nat) (P : Program) (gf : Nat) (lb : Array Value) (encs : α → Array Value) (V : α → World → Prop) (Kp : Nat → World → World → Prop) (S : List α → Prop) (w : World) : Prop :=
  ∀ (l : Nat) (J : List α → World → Prop) (W : World), Below w.heap.size w W → OwnFrom W.heap.size J →
    (∀ pre x W1, J pre W1 → V x W1 → YieldAt Fence.wide k P l (encs x) W1 fun e W' => e = .returned (.bool true) ∧ J (pre ++ [x]) W' ∧ Kp W.heap.size W1 W') →
    J [] W → CallsIn Fence.wide (k + 1) P gf (#[.func (.yield l) #[] #[]] ++ lb) W fun e W' => (∃ v, e = .returned v) ∧ ∃ xs, S xs ∧ J xs W'
/-- the loop's record -/
def recO (fn : FuncId) (tmps : Array Value) (ps : Array Tmp) (assign body : Code) (D : Nat) : Loop := { state := .ready, pending := none, fn, tmps, params := ps, assign, body, defers := D }
/-- a block that is no cells stays where only other blocks change -/
theorem held_grown {W W' : World} {row : Option Nat} {k : Nat} {o : Obj} (h : W.heap[k]? = some o) (hg : W.grownBy W' row) (hr : ∀ r, row = some r → k ≠ r) : W'.heap[k]? = some o :=
  (hg.block k (Array.getElem?_eq_some_iff.1 h).1 (fun e => hr k e.symm rfl)).trans h
/-- what the iterator must leave as it is: the caller's invariant and the loop's two blocks -/
def BookO {α : Type} (I : List α → World → Prop) (D : Nat) (r : Loop) (pre : List α) (W : World) : Prop := I pre W ∧ W.heap[D + 1]? = some (.loop r) ∧ W.heap[D]? = some (.deferred (some []))
theorem bookO_own {α : Type} {I : List α → World → Prop} {D B : Nat} {r : Loop} (hI : OwnFrom D I) (hB : D + 2 ≤ B) : OwnFrom B (BookO I D r) := by
  rintro s A A' row ⟨h1, h2, h3⟩ hg hr
  have hne : ∀ q, row = some q → D + 2 ≤ q := fun q e => Nat.le_trans hB (hr q e).1
  exact ⟨hI s A A' row h1 hg (fun q e => ⟨by have := hne q e; omega, (hr q e).2⟩), held_grown h2 hg (fun q e => by have := hne q e; omega), held_grown h3 hg (fun q e => by have := hne q e; omega)⟩
theorem range_goes {α : Type} {P : Program} {k : Nat} {g : Operand} {ps : Array Tmp} {assign body : Code} {Q : Exit → Act → World → Prop} {a : Act} {w : World} {gf : Nat} {lb : Array Value}
    {encs : α → Array Value} {V : α → World → Prop} {Kp : Nat → World → World → Prop} {S : List α → Prop} {I : List α → World → Prop} {Ax : α → Act → World → Prop}
    (hg : a.eval g = .func (.func gf) #[] lb) (eg : ∀ args w, (callFunc gf args).run P w = .ok (.enter gf args) w) (hps : ∀ x, (encs x).size = ps.size)
    (hseq : Goes k P gf lb encs V Kp S w) (hKt : ∀ {A B C : World}, Kp (w.heap.size + 2) A B → Kp (w.heap.size + 2) B C → Kp (w.heap.size + 2) A C) (hKb : ∀ (W : World) (l : Nat) (o o' : Obj), w.heap.size ≤ l → l < w.heap.size + 2 → W.heap[l]? = some o → o.isCells = false → o.isWalk = false → Kp (w.heap.size + 2) W (W.putObj l o'))
    (hI : OwnFrom w.heap.size I) (h0 : I [] w) (hAx : ∀ x a', OwnFrom w.heap.size (fun (_ : Unit) W => Ax x a' W))
    (hassign : ∀ (l : Nat) (pre : List α) (x : α) (W : World) (K : Act → World → Prop), I pre W → V x W → (∀ a' W', KeepsFrom w.heap.size W W' → Kp (w.heap.size + 2) W W' → I pre W' → Ax x a' W' → K a' W') →
      assign.wpIn (Fence.wide.inRound l) k P (Exit.then K (fun _ _ _ => False)) { tmps := (ps.zip (encs x)).foldl (fun t (p, v) => t.setIfInBounds p v) a.tmps, defers := [] } W)
    (hbody : ∀ (l : Nat) (pre : List α) (x : α) (a' : Act) (W : World), w.heap.size ≤ l → I pre W → Ax x a' W → body.wpIn (Fence.wide.inRound l) k P (fun e _ W' => e = .normal ∧ KeepsFrom w.heap.size W W' ∧ Kp (w.heap.size + 2) W W' ∧ I (pre ++ [x]) W') a' W)
    (hdone : ∀ (D : Nat) (xs : List α) (W : World), w.heap.size ≤ D → S xs → I xs W → W.heap[D]? = some (.deferred (some [])) → Q .normal { a with defers := { target := .collected D, args := #[] } :: a.defers } W) :
    (Code.rangeFunc g ps assign body).wpIn Fence.wide (k + 2) P Q a w := by
  refine wpIn_rangeFunc fun fn _ => ?_
  obtain ⟨D, hD⟩ : ∃ D, w.heap.size = D := ⟨_, rfl⟩
  obtain ⟨r, hr⟩ : ∃ r, recO fn a.tmps ps assign body D = r := ⟨_, rfl⟩
  obtain ⟨W1, hW1⟩ : ∃ W1, (w.alloc (.deferred (some []))).alloc (.loop r) = W1 := ⟨_, rfl⟩
  have hb1 : Below w.heap.size w W1 := by rw [← hW1]; exact bthen (balloc _ _) (balloc _ _)
  have hz1 : W1.heap.size = D + 2 := by rw [← hW1, ← hD]; simp
  have hloop : W1.heap[D + 1]? = some (.loop r) := by
    rw [← hW1, ← hD]; have := World.alloc_heap_new (w.alloc (.deferred (some []))) (.loop r); rwa [World.size_alloc] at this
  have hdef : W1.heap[D]? = some (.deferred (some [])) := by
    rw [← hW1, ← hD]; exact ((balloc (w.alloc (.deferred (some []))) (.loop r)).block w.heap.size (by simp)).trans (World.alloc_heap_new w _)
  have hbook : BookO I D r [] W1 := ⟨by rw [← hW1]; exact hI.alloc _ (hI.alloc _ h0), hloop, hdef⟩
  rw [hD] at hI hAx hassign hbody hKb hKt hdone
  refine ⟨D + 1, [{ target := .collected D, args := #[] }], W1, { target := .fn (.func gf) lb, args := #[.func (.yield (D + 1)) #[] #[]] }, W1, gf, #[.func (.yield (D + 1)) #[] #[]] ++ lb, W1, ?_, ?_, ?_, ?_, ?_, ?_⟩
  · rw [← hW1, ← hr, ← hD]; exact run_enterLoop_outer _ _ _ _ _
  · simp only [resolve, hg]
    simp [go_sem]
  · intro f' _; trivial
  · simp [invoke, go_sem, eg]
  · intro h; cases h
  refine (hseq (D + 1) (BookO I D r) W1 hb1 (bookO_own hI (by omega)) ?_ hbook).mono ?_
  · rintro pre x W ⟨hi, hl, hd⟩ hV
    have hrun := run_yield (P := P) (args := encs x) hl (by rw [← hr]; exact hps x)
    rw [← hr] at hrun
    refine ⟨fn, _, assign, body, hrun, roundIn_of_wpIn trivial (hassign (D + 1) pre x W _ hi hV ?_)⟩
    intro a' Wa hkf hkp hia hax
    have hl2 := hkf.same (D + 1) _ (Nat.le_succ _) hl rfl
    have hd2 := hkf.same D _ (Nat.le_refl _) hd rfl
    have hlt := (Array.getElem?_eq_some_iff.1 hl2).1
    refine ⟨_, run_beginRound hl2 (by rw [← hr]; rfl), ?_⟩
    obtain ⟨Wb, hWb⟩ : ∃ Wb, Wa.putObj (D + 1) (.loop { r with state := .busy }) = Wb := ⟨_, rfl⟩
    rw [hWb]
    have hl3 : Wb.heap[D + 1]? = some (.loop { r with state := .busy }) := by rw [← hWb]; exact World.putObj_heap_same hlt
    have hd3 : Wb.heap[D]? = some (.deferred (some [])) := by rw [← hWb]; exact (World.putObj_heap_other (by omega)).trans hd2
    have hk3 : Kp (D + 2) Wa Wb := by rw [← hWb]; exact hKb _ _ _ _ (Nat.le_succ _) (Nat.lt_succ_self _) hl2 rfl rfl
    have hi3 : I pre Wb := by rw [← hWb]; exact hI.putObj _ hia (Nat.le_succ _) hl2 rfl
    have ha3 : Ax x a' Wb := by rw [← hWb]; exact (hAx x a').putObj (s := ()) _ hax (Nat.le_succ _) hl2 rfl
    refine wpIn_mono (hbody (D + 1) pre x a' Wb (Nat.le_succ _) hi3 ha3) ?_
    rintro e a3 W3 ⟨rfl, hkf3, hkp3, hi4⟩
    have hl4 := hkf3.same (D + 1) _ (Nat.le_succ _) hl3 rfl
    have hd4 := hkf3.same D _ (Nat.le_refl _) hd3 rfl
    have hlt4 := (Array.getElem?_eq_some_iff.1 hl4).1
    refine ⟨_, _, run_endRound none hl4, rfl, ⟨hI.putObj _ hi4 (Nat.le_succ _) hl4 rfl, ?_, (World.putObj_heap_other (by omega)).trans hd4⟩, by rw [hz1]; exact hKt hkp (hKt hk3 (hKt hkp3 (hKb _ _ _ _ (Nat.le_succ _) (Nat.lt_succ_self _) hl4 rfl rfl)))⟩
    rw [World.putObj_heap_same hlt4, ← hr]; rfl
  · rintro e W2 ⟨⟨v, rfl⟩, xs, hS, hi, hl, hd⟩
    have hend := run_endLoop (P := P) hl (by rw [← hr]; simp [recO])
    refine ⟨none, _, by rw [hend, ← hr]; rfl, hdone D xs _ (Nat.le_refl _) hS (hI.putObj _ hi (Nat.le_succ _) hl rfl) ((World.putObj_heap_other (by omega)).trans hd)⟩
end Go.Proofs.Ytfimdhbcifjioaa
