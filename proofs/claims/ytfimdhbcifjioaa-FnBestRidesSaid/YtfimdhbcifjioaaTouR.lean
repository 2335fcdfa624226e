/- Chapter 7: rounds in memory: rows of rows of numbers, rows of stops; the laws' helpers over them. -/
import Derived.Test.YtfimdhbcifjioaaTouS
namespace Go.Proofs.Ytfimdhbcifjioaa
open Go.RowKit
set_option linter.unusedVariables false

/-- a list of numbers as it lies in memory -/
structure Rw where
  A : Option Addr
  c : Nat
  l : List Int
def rwL (w : World) (B : Nat) (A : Option Addr) (R : List Rw) : Prop :=
  R = [] ∨ ∃ b off, A = some ⟨b, off, none⟩ ∧ b < B ∧ ∀ k x, R[k]? = some x → w.cell? ⟨b, off + k, none⟩ = some (.slice x.A x.l.length x.c)
def RV (w : World) (B : Nat) (x : Rw) : Prop := IL w B x.A x.l ∧ x.l.length ≤ maxLen
theorem rwL.below {w w' : World} {B : Nat} {A : Option Addr} {R : List Rw} (h : rwL w B A R) (hb : Below B w w') : rwL w' B A R := by
  rcases h with h | ⟨b, off, rfl, hlt, hc⟩
  · exact .inl h
  · exact .inr ⟨b, off, rfl, hlt, fun k x hx => (hb.cell (p := ⟨b, off + k, none⟩) hlt).trans (hc k x hx)⟩
theorem rwL.at_ {w : World} {B : Nat} {A : Option Addr} {R : List Rw} (h : rwL w B A R) {k : Nat} (hk : k < R.length) :
    ∃ b off x, A = some ⟨b, off, none⟩ ∧ b < B ∧ R[k]? = some x ∧ w.cell? ⟨b, off + k, none⟩ = some (.slice x.A x.l.length x.c) := by
  rcases h with h | ⟨b, off, rfl, hlt, hc⟩
  · subst h; simp at hk
  · exact ⟨b, off, _, rfl, hlt, List.getElem?_eq_getElem hk, hc k _ (List.getElem?_eq_getElem hk)⟩
theorem rwL.later {w w' : World} {B : Nat} {A : Option Addr} {R : List Rw} (h : rwL w B A R) (hB : B ≤ w.heap.size) (hb : Below w.heap.size w w') : rwL w' B A R := h.below (hb.mono hB)
theorem rwL.more {w : World} {B B' : Nat} {A : Option Addr} {R : List Rw} (h : rwL w B A R) (hB : B ≤ B') : rwL w B' A R := by
  rcases h with h | ⟨b, off, rfl, hlt, hc⟩
  · exact .inl h
  · exact .inr ⟨b, off, rfl, by omega, hc⟩
theorem RV.below {w w' : World} {B : Nat} {x : Rw} (h : RV w B x) (hb : Below B w w') : RV w' B x := ⟨h.1.below hb, h.2⟩
theorem RV.later {w w' : World} {B : Nat} {x : Rw} (h : RV w B x) (hB : B ≤ w.heap.size) (hb : Below w.heap.size w w') : RV w' B x := h.below (hb.mono hB)
def gOf (R : List Rw) : List (List Int) := R.map Rw.l
theorem gOf_len (R : List Rw) : (gOf R).length = R.length := by simp [gOf]
theorem gOf_at {R : List Rw} {k : Nat} {x : Rw} (h : R[k]? = some x) : (gOf R)[k]? = some x.l := by simp [gOf, h]
/-- a round's lists as they are read -/
structure RdIn (w : World) (B : Nat) (AL : Option Addr) (R : List Rw) (AS : Option Addr) (S : List Sp) : Prop where
  rows : rwL w B AL R
  vals : ∀ x ∈ R, RV w B x
  stops : spL w B AS S
  lr : R.length ≤ maxLen
  ls : S.length ≤ maxLen
theorem RdIn.below {w w' : World} {B : Nat} {AL AS : Option Addr} {R : List Rw} {S : List Sp} (h : RdIn w B AL R AS S) (hb : Below B w w') : RdIn w' B AL R AS S :=
  ⟨h.rows.below hb, fun x hx => (h.vals x hx).below hb, h.stops.below hb, h.lr, h.ls⟩
theorem RdIn.later {w w' : World} {B : Nat} {AL AS : Option Addr} {R : List Rw} {S : List Sp} (h : RdIn w B AL R AS S) (hB : B ≤ w.heap.size) (hb : Below w.heap.size w w') : RdIn w' B AL R AS S := h.below (hb.mono hB)
def totR (G : List (List Int)) : Nat := (G.map List.length).sum
theorem totR_snoc (G : List (List Int)) (l : List Int) : totR (G ++ [l]) = totR G + l.length := by simp [totR]
theorem totR_mem {G : List (List Int)} {l : List Int} (h : l ∈ G) : l.length ≤ totR G := by
  induction G with
  | nil => simp at h
  | cons a r ih =>
    have e : totR (a :: r) = a.length + totR r := by simp [totR]
    rcases List.mem_cons.1 h with h | h
    · subst h; omega
    · have := ih h; omega
theorem totR_take {R : List Rw} {k : Nat} {x : Rw} (hx : R[k]? = some x) : totR (gOf (R.take (k + 1))) = totR (gOf (R.take k)) + x.l.length := by
  have e : gOf (R.take (k + 1)) = gOf (R.take k) ++ [x.l] := by simp [gOf, List.take_add_one, hx]
  rw [e, totR_snoc]
def SizedR (R : List Rw) (r : Int) : Prop := r = -1 ∨ (0 ≤ r ∧ r + R.length + totR (gOf R) ≤ 1048576)

/-- a round is small enough for the laws -/
def SmallRd (R : List Rw) (S : List Sp) : Prop := R.length + totR (gOf R) + S.length ≤ 1048576
end Go.Proofs.Ytfimdhbcifjioaa
