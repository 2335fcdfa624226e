/- Chapter 8: maps from names of events to events: what such a map holds, as a partial function, and what its operations do. -/
import Derived.Test.YtdcejkompdbliaaDoorEvN
import Derived.Maps.RangeWalk
import Derived.Maps.OwnSet
import Derived.Maps.OwnOps
import Derived.Maps.Views
import Derived.DeepKeys4
import Derived.MapViews
namespace Go.Proofs.YtdcejkompdbliaaDoor
open Go.RowKit Go.Maps
set_option linter.unusedVariables false
set_option maxRecDepth 100000

theorem nmLaidOut : laidOutB Tryd.prog = true := by kernel_rfl
theorem nmRow : (56 : TypeId) < Tryd.prog.types.size := of_decide_eq_true (by kernel_rfl)
theorem nmCells : Tryd.prog.cellsOf 56 = 2 := by kernel_rfl
theorem nmInt : Tryd.prog.cellsOf 3 = 1 := by kernel_rfl
theorem nmDeep : Tryd.prog.keyTypeAt (Tryd.prog.types.size + 1) 56 = true := by kernel_rfl
theorem nmWide : (match Tryd.prog.underlying 56 with | some (.array _ _) | some (.struct _) => true | _ => false) = true := by rw [Tryd.underlying56]
theorem nmLaw : Keyed Tryd.prog 56 := Keyed.of_law (deep_law_laid nmLaidOut (m := 2) (by omega) nmRow (by kernel_rfl) nmWide)
theorem nmFormed {c0 c1 : Value} : (Value.agg #[c0, c1]).formed Tryd.prog 56 = true := by simp [Value.formed, Tryd.underlying56, nmCells]
theorem nmZero (w : World) : (zeroValue 40).run Tryd.prog w = .ok (.agg #[.int .i64 0, .int .i64 0, .int .i64 0, .int .i64 0, .int .i64 0, .int .i64 0, .int .i64 0]) w := by kernel_rfl
/-- a name in the range -/
def InN (a b : Int) : Prop := (-1 ≤ a ∧ a ≤ 1000) ∧ (-1 ≤ b ∧ b ≤ 1001)
def kE (a b : Int) : Lit := (DataW.agg [.lit (.int .i64 a), .lit (.int .i64 b)] : DataW Unit).asKey
theorem kE_key {a b : Int} (h : InN a b) : keyOf Tryd.prog 56 (.agg #[.int .i64 a, .int .i64 b]) = some (kE a b) := by
  have wa : (Lit.int .i64 a).wf = true := WalkArith.wf_i64 (by unfold InN at h; omega)
  have wb : (Lit.int .i64 b).wf = true := WalkArith.wf_i64 (by unfold InN at h; omega)
  have ht : DataW.Trod (H := Unit) (fun _ => ()) Tryd.prog default 0 (fun _ => true) true 56 (.agg #[.int .i64 a, .int .i64 b]) (.agg [.lit (.int .i64 a), .lit (.int .i64 b)]) [] := by
    refine ⟨2, ?_⟩
    show DataW.trod _ _ _ _ _ _ (1 + 1) _ [.int .i64 a, .int .i64 b] = _
    rw [DataW.trod_step]
    unfold DataW.trodStep
    simp [Tryd.underlying56, DataW.trod, Tryd.underlying3, wa, wb, nmCells, nmInt]
  exact (keyOf_asKey nmDeep nmWide nmFormed ht).1
theorem kE_inj {a b a' b' : Int} (h : InN a b) (h' : InN a' b') (e : kE a b = kE a' b') : a = a' ∧ b = b' := by
  have := nmLaw.inj (kE_key h) (by rw [e]; exact kE_key h')
  simpa using this
def dE (x : Ev) : DataW Unit := .agg [.lit (.int .i64 x.nod), .lit (.int .i64 x.seq), .lit (.int .i64 x.stm), .lit (.int .i64 x.knd), .lit (.int .i64 x.par), .lit (.int .i64 x.aa), .lit (.int .i64 x.bb)]
def rdE : Value → Option (DataW Unit × List MemPlace)
  | .agg ⟨[.int .i64 a0, .int .i64 a1, .int .i64 a2, .int .i64 a3, .int .i64 a4, .int .i64 a5, .int .i64 a6]⟩ => some (dE ⟨a0, a1, a2, a3, a4, a5, a6⟩, [])
  | _ => none
theorem rdE_mk (x : Ev) : rdE (.agg x.A) = some (dE x, []) := rfl
theorem rdE_inv {v : Value} {y : DataW Unit × List MemPlace} (h : rdE v = some y) : ∃ x : Ev, v = .agg x.A ∧ y = (dE x, []) := by
  unfold rdE at h
  split at h
  · rename_i a0 a1 a2 a3 a4 a5 a6
    injection h with h
    exact ⟨⟨a0, a1, a2, a3, a4, a5, a6⟩, rfl, h.symm⟩
  · cases h
theorem dE_inj {x y : Ev} (h : dE x = dE y) : x = y := by
  cases x; cases y; simpa [dE] using h
abbrev PE := Int → Int → Option Ev
def eset (f : PE) (x : Ev) : PE := fun a b => if a = x.nod ∧ b = x.seq then some x else f a b
structure HoldsE (D : DataW Unit) (f : PE) : Prop where
  has : ∀ a b : Int, InN a b → Maps.has D (kE a b) = (f a b).isSome
  val : ∀ (a b : Int) (x : Ev), InN a b → f a b = some x → ∀ z, D.atKey (kE a b) z = dE x
def ME (w : World) (bm n : Nat) (f : PE) : Prop := ∃ D : DataW Unit, w.ownsMap Tryd.prog 56 rdE bm n D ∧ HoldsE D f
theorem ME.lt {w : World} {bm n : Nat} {f : PE} (h : ME w bm n f) : bm < w.heap.size := h.elim fun D hD => hD.1.lt
theorem ME.kept {w w' : World} {bm n : Nat} {f : PE} {row : Option Nat} (h : ME w bm n f) (hg : w.grownBy w' row) (hne : some bm ≠ row) : ME w' bm n f := h.elim fun D hD => ⟨D, hD.1.kept hg hne, hD.2⟩
theorem ME.call {w w' : World} {bm n : Nat} {f : PE} (h : ME w bm n f) (hb : Below w.heap.size w w') : ME w' bm n f := h.kept (row := none) ⟨hb.os, hb.tape, hb.output, hb.size, fun k hk _ => hb.block k hk⟩ (by simp)
theorem ME_made (w : World) : ME (w.alloc (.map #[] 0)) w.heap.size 0 (fun _ _ => none) :=
  ⟨.map [], World.ownsMap_made w _ _ _, ⟨fun a b _ => rfl, fun a b x _ h => by cases h⟩⟩
theorem HoldsE.put {D : DataW Unit} {f : PE} (h : HoldsE D f) (hm : IsMap D) {x : Ev} (hx : InN x.nod x.seq) : HoldsE (D.put (kE x.nod x.seq) (dE x)) (eset f x) where
  has := fun a b hab => by
    by_cases e : a = x.nod ∧ b = x.seq
    · obtain ⟨rfl, rfl⟩ := e
      rw [has_put_same hm (nmLaw.key (kE_key hx))]; simp [eset]
    · rw [has_put_other (fun e2 => e (kE_inj hab hx e2)), h.has a b hab]; simp [eset, e]
  val := fun a b y hab hy z => by
    by_cases e : a = x.nod ∧ b = x.seq
    · obtain ⟨rfl, rfl⟩ := e
      have : y = x := by simp [eset] at hy; exact hy.symm
      subst this
      exact atKey_put_same hm (nmLaw.key (kE_key hx)) _ _
    · have hy2 : f a b = some y := by simpa [eset, e] using hy
      rw [atKey_put_other (fun e2 => e (kE_inj hab hx e2))]; exact h.val a b y hab hy2 z
/-- a look-up, with the flag -/
theorem me_look {w : World} {bm n : Nat} {f : PE} (h : ME w bm n f) {a b : Int} (hab : InN a b) : (Instr.lookup 41 (.map (some bm)) (.agg #[.int .i64 a, .int .i64 b]) true).run Tryd.prog w = .ok (.tuple #[.agg ((f a b).getD zeroE).A, .bool (f a b).isSome]) w := by
  obtain ⟨D, hown, hD⟩ := h
  obtain ⟨v, ps, hrun, hv⟩ := hown.look_ok nmLaw Tryd.underlying41 (nmZero w) (rdE_mk zeroE) (kE_key hab)
  obtain ⟨x, rfl, hx⟩ := rdE_inv hv
  injection hx with hx _
  rw [hrun, hD.has a b hab]
  cases hf : f a b with
  | none =>
    have h2 : Maps.has D (kE a b) = false := by rw [hD.has a b hab, hf]; rfl
    rw [atKey_of_not_has h2] at hx
    rw [← dE_inj hx]; rfl
  | some y =>
    rw [hD.val a b y hab hf] at hx
    rw [← dE_inj hx]; rfl
theorem me_upd {w : World} {bm n : Nat} {f : PE} (h : ME w bm n f) (hn : n < maxLen) {x : Ev} (hx : InN x.nod x.seq) : ∃ w', (Instr.mapUpdate 41 (.map (some bm)) (.agg #[.int .i64 x.nod, .int .i64 x.seq]) (.agg x.A)).run Tryd.prog w = .ok () w' ∧ ME w' bm (n + 1) (eset f x) ∧ w.grownBy w' (some bm) := by
  obtain ⟨D, hown, hD⟩ := h
  obtain ⟨w', hrun, r1, r2⟩ := hown.update nmLaw Tryd.underlying41 hn (kE_key hx) (rdE_mk x)
  exact ⟨w', hrun, ⟨_, r1, hD.put hown.isMap hx⟩, r2⟩
end Go.Proofs.YtdcejkompdbliaaDoor
