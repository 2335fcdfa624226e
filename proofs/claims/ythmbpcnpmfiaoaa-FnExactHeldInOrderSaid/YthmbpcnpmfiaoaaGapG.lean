/- Chapter 2: boxes linked in a stack, in two pieces; a stack becomes a column; filling. -/
import Derived.Test.YthmbpcnpmfiaoaaGapB
import Derived.Test.YthmbpcnpmfiaoaaGapF
import Derived.Test.YthmbpcnpmfiaoaaGapH
namespace Go.Proofs.Ythmbpcnpmfiaoaa
open Go.RowKit
set_option linter.unusedVariables false

/-- a piece of a stack: from p on, up to q -/
def TS (w : World) (lo : Nat) (q : Option Addr) : Option Addr → List Nat → List Tr → Prop
  | p, [], [] => p = q
  | p, g :: gs, t :: r => p = some ⟨g, 0, none⟩ ∧ lo ≤ g ∧ ∃ m, Has w g 85 (tierC t m) ∧ TS w lo q m gs r
  | _, _, _ => False
theorem TS.kept {w w' : World} {lo : Nat} {q : Option Addr} : ∀ {gs : List Nat} {p : Option Addr} {l : List Tr}, TS w lo q p gs l → (∀ g ∈ gs, ∀ cs, Has w g 85 cs → Has w' g 85 cs) → TS w' lo q p gs l
  | [], p, [], h, _ => h
  | [], p, t :: r, h, _ => h.elim
  | g :: gs, p, [], h, _ => h.elim
  | g :: gs, p, t :: r, ⟨h1, h2, m, h4, h5⟩, hk => ⟨h1, h2, m, hk g List.mem_cons_self _ h4, h5.kept fun g' hg' => hk g' (List.mem_cons_of_mem _ hg')⟩
theorem TS.lt {w : World} {lo : Nat} {q : Option Addr} : ∀ {gs : List Nat} {p : Option Addr} {l : List Tr}, TS w lo q p gs l → ∀ g ∈ gs, lo ≤ g ∧ g < w.heap.size
  | [], p, l, _, g, hg => by cases hg
  | g :: gs, p, [], h, _, _ => h.elim
  | g :: gs, p, t :: r, ⟨h1, h2, m, h4, h5⟩, g', hg' => by
    rcases List.mem_cons.1 hg' with e | e
    · subst e; exact ⟨h2, has_lt h4⟩
    · exact h5.lt g' e
theorem TS.snoc {w : World} {lo g : Nat} {q m : Option Addr} {t : Tr} (hg : q = some ⟨g, 0, none⟩) (hl : lo ≤ g) (hH : Has w g 85 (tierC t m)) : ∀ {gs : List Nat} {p : Option Addr} {l : List Tr}, TS w lo q p gs l → TS w lo m p (gs ++ [g]) (l ++ [t])
  | [], p, [], h => ⟨h.trans hg, hl, m, hH, rfl⟩
  | [], p, t :: r, h => h.elim
  | g :: gs, p, [], h => h.elim
  | g :: gs, p, t :: r, ⟨h1, h2, m', h4, h5⟩ => ⟨h1, h2, m', h4, TS.snoc hg hl hH h5⟩
theorem TS.tl {w : World} {lo : Nat} {q : Option Addr} {gs2 : List Nat} {l2 : List Tr} (h2 : TL w lo q gs2 l2) : ∀ {gs : List Nat} {p : Option Addr} {l : List Tr}, TS w lo q p gs l → (gs ++ gs2).Nodup → TL w lo p (gs ++ gs2) (l ++ l2)
  | [], p, [], h, _ => by have : p = q := h
                          subst this; exact h2
  | [], p, t :: r, h, _ => h.elim
  | g :: gs, p, [], h, _ => h.elim
  | g :: gs, p, t :: r, ⟨h1, h3, m, h4, h5⟩, hn => by
    rw [List.cons_append, List.nodup_cons] at hn
    exact ⟨h1, h3, hn.1, m, h4, h5.tl h2 hn.2⟩
theorem TL.nodup {w : World} {lo : Nat} : ∀ {gs : List Nat} {p : Option Addr} {l : List Tr}, TL w lo p gs l → gs.Nodup
  | [], _, _, _ => List.nodup_nil
  | g :: gs, p, [], h => h.elim
  | g :: gs, p, t :: r, ⟨_, _, h3, q, _, h5⟩ => List.nodup_cons.2 ⟨h3, h5.nodup⟩
theorem TL.len {w : World} {lo : Nat} : ∀ {gs : List Nat} {p : Option Addr} {l : List Tr}, TL w lo p gs l → gs.length = l.length
  | [], p, [], _ => rfl
  | [], p, t :: r, h => h.elim
  | g :: gs, p, [], h => h.elim
  | g :: gs, p, t :: r, ⟨_, _, h3, q, _, h5⟩ => by simp [h5.len]
/-- of a tier, three stores -/
theorem tier_set {w : World} {g : Nat} {t : Tr} {m : Option Addr} (h : Has w g 85 (tierC t m)) (s : Int) (m' : Option Addr) :
    Has ((w.setCell ⟨g, 1, none⟩ (.int .i64 s)).setCell ⟨g, 5, none⟩ (.pointer m')) g 85 (tierC ⟨⟨t.x.low, s, t.x.par, t.x.jam⟩, t.fx⟩ m') := by
  have := has_set (has_set h 1 (.int .i64 s)) 5 (.pointer m')
  simpa [tierC] using this
theorem TL.set {w : World} {lo g : Nat} {gs : List Nat} {p : Option Addr} {l : List Tr} (h : TL w lo p gs l) (hg : g ∉ gs) (i : Nat) (v : Value) : TL (w.setCell ⟨g, i, none⟩ v) lo p gs l :=
  h.kept fun g' hg' cs hh => has_far hh (p := ⟨g, i, none⟩) (fun e => hg (by have e' : g' = g := e; rw [← e']; exact hg')) v
theorem TS.set {w : World} {lo g : Nat} {q : Option Addr} {gs : List Nat} {p : Option Addr} {l : List Tr} (h : TS w lo q p gs l) (hg : g ∉ gs) (i : Nat) (v : Value) : TS (w.setCell ⟨g, i, none⟩ v) lo q p gs l :=
  h.kept fun g' hg' cs hh => has_far hh (p := ⟨g, i, none⟩) (fun e => hg (by have e' : g' = g := e; rw [← e']; exact hg')) v
theorem TS.call {w w' : World} {lo : Nat} {q : Option Addr} {gs : List Nat} {p : Option Addr} {l : List Tr} (h : TS w lo q p gs l) (hb : Below w.heap.size w w') : TS w' lo q p gs l := h.kept fun g hg cs hh => has_call hh hb

theorem has_appG {w w' : World} {g base : Nat} {T e : TypeId} {cs : Array Value} {row : Option Nat} (h : Has w g T cs) (hg : w.grownBy w' row) (hr : ∀ b, row = some b → base ≤ b ∧ ∃ cur, Has w b e cur) (hne : e ≠ T) : Has w' g T cs :=
  has_grown h hg (fun eq => by
    obtain ⟨_, cur, hc⟩ := hr g eq.symm
    have := hc.symm.trans h
    injection this with this; injection this with _ this _
    exact hne this)
end Go.Proofs.Ythmbpcnpmfiaoaa
