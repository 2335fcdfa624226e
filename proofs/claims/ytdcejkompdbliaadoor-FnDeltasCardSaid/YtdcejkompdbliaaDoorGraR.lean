/- Rows of Grant: what a slice of them reads as, and the laws' own helpers over them (gen_row.py). -/
import Derived.Test.YtdcejkompdbliaaDoorGraP
import Derived.Test.YtdcejkompdbliaaDoorRng
import Derived.StillTailTactics
namespace Go.Proofs.YtdcejkompdbliaaDoor
open Go.RowKit
set_option linter.unusedVariables false


/-- a slice of them reads as the list, below block B -/
def grL (w : World) (B : Nat) (A : Option Addr) (l : List Gr) : Prop :=
  l = [] ∨ ∃ b off, A = some ⟨b, off, none⟩ ∧ b < B ∧ ∀ k x, l[k]? = some x → w.cell? ⟨b, off + k * 7, none⟩ = some (.int .i64 x.frm) ∧ w.cell? ⟨b, off + k * 7 + 1, none⟩ = some (.int .i64 x.to) ∧ w.cell? ⟨b, off + k * 7 + 2, none⟩ = some (.int .i64 x.par) ∧ w.cell? ⟨b, off + k * 7 + 3, none⟩ = some (.int .i64 x.dep) ∧ w.cell? ⟨b, off + k * 7 + 4, none⟩ = some (.int .i64 x.sta) ∧ w.cell? ⟨b, off + k * 7 + 5, none⟩ = some (.int .i64 x.fin) ∧ w.cell? ⟨b, off + k * 7 + 6, none⟩ = some (.bool x.off)
theorem grL.below {w w' : World} {B : Nat} {A : Option Addr} {l : List Gr} (h : grL w B A l) (hb : Below B w w') : grL w' B A l := by
  rcases h with h | ⟨b, off, rfl, hlt, hc⟩
  · exact .inl h
  · refine .inr ⟨b, off, rfl, hlt, fun k x hx => ?_⟩
    have := hc k x hx
    exact ⟨(hb.cell (p := ⟨b, off + k * 7, none⟩) hlt).trans this.1, (hb.cell (p := ⟨b, off + k * 7 + 1, none⟩) hlt).trans this.2.1, (hb.cell (p := ⟨b, off + k * 7 + 2, none⟩) hlt).trans this.2.2.1, (hb.cell (p := ⟨b, off + k * 7 + 3, none⟩) hlt).trans this.2.2.2.1, (hb.cell (p := ⟨b, off + k * 7 + 4, none⟩) hlt).trans this.2.2.2.2.1, (hb.cell (p := ⟨b, off + k * 7 + 5, none⟩) hlt).trans this.2.2.2.2.2.1, (hb.cell (p := ⟨b, off + k * 7 + 6, none⟩) hlt).trans this.2.2.2.2.2.2⟩
theorem grL.at_ {w : World} {B : Nat} {A : Option Addr} {l : List Gr} (h : grL w B A l) {k : Nat} (hk : k < l.length) :
    ∃ b off x, A = some ⟨b, off, none⟩ ∧ b < B ∧ l[k]? = some x ∧ w.cell? ⟨b, off + k * 7, none⟩ = some (.int .i64 x.frm) ∧ w.cell? ⟨b, off + k * 7 + 1, none⟩ = some (.int .i64 x.to) ∧ w.cell? ⟨b, off + k * 7 + 2, none⟩ = some (.int .i64 x.par) ∧ w.cell? ⟨b, off + k * 7 + 3, none⟩ = some (.int .i64 x.dep) ∧ w.cell? ⟨b, off + k * 7 + 4, none⟩ = some (.int .i64 x.sta) ∧ w.cell? ⟨b, off + k * 7 + 5, none⟩ = some (.int .i64 x.fin) ∧ w.cell? ⟨b, off + k * 7 + 6, none⟩ = some (.bool x.off) := by
  rcases h with h | ⟨b, off, rfl, hlt, hc⟩
  · subst h; simp at hk
  · exact ⟨b, off, _, rfl, hlt, List.getElem?_eq_getElem hk, hc k _ (List.getElem?_eq_getElem hk)⟩
theorem grL.later {w w' : World} {B : Nat} {A : Option Addr} {l : List Gr} (h : grL w B A l) (hB : B ≤ w.heap.size) (hb : Below w.heap.size w w') : grL w' B A l := h.below (hb.mono hB)
theorem grL.more {w : World} {B B' : Nat} {A : Option Addr} {l : List Gr} (h : grL w B A l) (hB : B ≤ B') : grL w B' A l := by
  rcases h with h | ⟨b, off, rfl, hlt, hc⟩
  · exact .inl h
  · exact .inr ⟨b, off, rfl, by omega, hc⟩
def grC (x : Gr) : List Value := [.int .i64 x.frm, .int .i64 x.to, .int .i64 x.par, .int .i64 x.dep, .int .i64 x.sta, .int .i64 x.fin, .bool x.off]
def grV (l : List Gr) : List Value := l.flatMap grC
theorem grV_len (l : List Gr) : (grV l).length = 7 * l.length := by
  induction l with
  | nil => rfl
  | cons a r ih => simp [grV, grC] at ih ⊢; omega
theorem grV_app (l r : List Gr) : grV (l ++ r) = grV l ++ grV r := by simp [grV]
theorem grV_one (x : Gr) : grV [x] = [.int .i64 x.frm, .int .i64 x.to, .int .i64 x.par, .int .i64 x.dep, .int .i64 x.sta, .int .i64 x.fin, .bool x.off] := rfl
theorem grV_at : ∀ {l : List Gr} {k : Nat} {x : Gr}, l[k]? = some x → (grV l)[k * 7]? = some (.int .i64 x.frm) ∧ (grV l)[k * 7 + 1]? = some (.int .i64 x.to) ∧ (grV l)[k * 7 + 2]? = some (.int .i64 x.par) ∧ (grV l)[k * 7 + 3]? = some (.int .i64 x.dep) ∧ (grV l)[k * 7 + 4]? = some (.int .i64 x.sta) ∧ (grV l)[k * 7 + 5]? = some (.int .i64 x.fin) ∧ (grV l)[k * 7 + 6]? = some (.bool x.off)
  | [], k, u, h => by simp at h
  | a :: r, 0, u, h => by
    simp at h; subst h
    exact ⟨rfl, rfl, rfl, rfl, rfl, rfl, rfl⟩
  | a :: r, k + 1, u, h => by
    have ih := grV_at (l := r) (k := k) (x := u) (by simpa using h)
    have e : grV (a :: r) = .int .i64 a.frm :: .int .i64 a.to :: .int .i64 a.par :: .int .i64 a.dep :: .int .i64 a.sta :: .int .i64 a.fin :: .bool a.off :: grV r := rfl
    rw [e, show (k + 1) * 7 = k * 7 + 1 + 1 + 1 + 1 + 1 + 1 + 1 by omega]
    exact ⟨by simpa using ih.1, by simpa using ih.2.1, by simpa using ih.2.2.1, by simpa using ih.2.2.2.1, by simpa using ih.2.2.2.2.1, by simpa using ih.2.2.2.2.2.1, by simpa using ih.2.2.2.2.2.2⟩
theorem grV_nil {l : List Gr} (h : grV l = []) : l = [] := by
  have := congrArg List.length h
  rw [grV_len] at this
  exact List.eq_nil_of_length_eq_zero (by simp only [List.length_nil] at this; omega)
theorem OR.gr {w : World} {base : Nat} {e : TypeId} {A : Option Addr} {l : List Gr} (h : OR w base e A (grV l)) : grL w w.heap.size A l := by
  rcases h with h | ⟨g, cur, rfl, hb, hh, hc⟩
  · exact .inl (grV_nil h)
  · refine .inr ⟨g, 0, rfl, has_lt hh, fun k x hx => ?_⟩
    have := grV_at hx
    rw [Nat.zero_add]
    exact ⟨has_cell hh _ (hc _ _ this.1), has_cell hh _ (hc _ _ this.2.1), has_cell hh _ (hc _ _ this.2.2.1), has_cell hh _ (hc _ _ this.2.2.2.1), has_cell hh _ (hc _ _ this.2.2.2.2.1), has_cell hh _ (hc _ _ this.2.2.2.2.2.1), has_cell hh _ (hc _ _ this.2.2.2.2.2.2)⟩
theorem OI.gr {w : World} {lo hi : Nat} {e : TypeId} {A : Option Addr} {l : List Gr} (h : OI w lo hi e A (grV l)) : grL w w.heap.size A l := h.or_.gr
theorem grV_of {l : List Gr} {cs : Array Value} (h : ∀ j x, j < l.length → l[j]? = some x → cs[j * 7]? = some (.int .i64 x.frm) ∧ cs[j * 7 + 1]? = some (.int .i64 x.to) ∧ cs[j * 7 + 2]? = some (.int .i64 x.par) ∧ cs[j * 7 + 3]? = some (.int .i64 x.dep) ∧ cs[j * 7 + 4]? = some (.int .i64 x.sta) ∧ cs[j * 7 + 5]? = some (.int .i64 x.fin) ∧ cs[j * 7 + 6]? = some (.bool x.off)) : ∀ (j : Nat) (u : Value), (grV l)[j]? = some u → cs[j]? = some u := by
  intro j u hu
  have hj : j < 7 * l.length := by have := (List.getElem?_eq_some_iff.1 hu).1; rwa [grV_len] at this
  obtain ⟨q, r, rfl, hr⟩ : ∃ q r, j = q * 7 + r ∧ r < 7 := ⟨j / 7, j % 7, by omega, by omega⟩
  have hq : q < l.length := by omega
  have hx := List.getElem?_eq_getElem hq
  have h1 := grV_at hx
  have h2 := h q _ hq hx
  rcases r with _ | _ | _ | _ | _ | _ | _ | r
  · rw [Nat.add_zero] at hu ⊢; rw [h1.1] at hu; rw [h2.1]; exact hu
  · rw [h1.2.1] at hu; rw [h2.2.1]; exact hu
  · rw [h1.2.2.1] at hu; rw [h2.2.2.1]; exact hu
  · rw [h1.2.2.2.1] at hu; rw [h2.2.2.2.1]; exact hu
  · rw [h1.2.2.2.2.1] at hu; rw [h2.2.2.2.2.1]; exact hu
  · rw [h1.2.2.2.2.2.1] at hu; rw [h2.2.2.2.2.2.1]; exact hu
  · rw [h1.2.2.2.2.2.2] at hu; rw [h2.2.2.2.2.2.2]; exact hu
  · omega
def seqgr (k : Int) (m : Nat) : List Gr := (List.range m).map fun (j : Nat) => ⟨k + 7 * (j : Int), k + 7 * (j : Int) + 1, k + 7 * (j : Int) + 1 + 1, k + 7 * (j : Int) + 1 + 1 + 1, k + 7 * (j : Int) + 1 + 1 + 1 + 1, k + 7 * (j : Int) + 1 + 1 + 1 + 1 + 1, (k + 7 * (j : Int) + 1 + 1 + 1 + 1 + 1 + 1) % 3 == 0⟩
theorem seqgr_len (k : Int) (m : Nat) : (seqgr k m).length = m := by simp [seqgr]
theorem seqgr_at {k : Int} {m j : Nat} (h : j < m) : (seqgr k m)[j]? = some ⟨k + 7 * (j : Int), k + 7 * (j : Int) + 1, k + 7 * (j : Int) + 1 + 1, k + 7 * (j : Int) + 1 + 1 + 1, k + 7 * (j : Int) + 1 + 1 + 1 + 1, k + 7 * (j : Int) + 1 + 1 + 1 + 1 + 1, (k + 7 * (j : Int) + 1 + 1 + 1 + 1 + 1 + 1) % 3 == 0⟩ := by simp [seqgr, h]
theorem grV_seq {l : List Gr} {k : Int} (h : grV l = []) : grV (seqgr k l.length) = [] := by rw [grV_nil h]; rfl

end Go.Proofs.YtdcejkompdbliaaDoor
