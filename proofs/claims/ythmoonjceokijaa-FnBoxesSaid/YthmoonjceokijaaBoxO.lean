/- Chapter 2: rows in blocks of their own, and what marking one leaves of the others. -/
import Derived.Test.YthmoonjceokijaaBoxA
import Derived.Laws.MakeOwn
import Derived.Laws.Rows
import Derived.Laws.NewBlocks
namespace Go.Proofs.Ythmoonjceokijaa
open Go.RowKit
set_option linter.unusedVariables false

def intV (l : List Int) : List Value := l.map (Value.int .i64)
def boxC (x : Bx) : List Value := [.int .i64 x.low, .int .i64 x.size, .int .i64 x.par, .bool x.jam]
def boxV (L : List Bx) : List Value := L.flatMap boxC
theorem intV_at {l : List Int} {k : Nat} {x : Int} (h : l[k]? = some x) : (intV l)[k]? = some (.int .i64 x) := by simp [intV, h]
theorem intV_len (l : List Int) : (intV l).length = l.length := by simp [intV]
theorem boxV_len (l : List Bx) : (boxV l).length = 4 * l.length := by
  induction l with
  | nil => rfl
  | cons a r ih => simp [boxV, boxC] at ih ⊢; omega
theorem boxV_at : ∀ {l : List Bx} {k : Nat} {x : Bx}, l[k]? = some x → (boxV l)[k * 4]? = some (.int .i64 x.low) ∧ (boxV l)[k * 4 + 1]? = some (.int .i64 x.size) ∧ (boxV l)[k * 4 + 2]? = some (.int .i64 x.par) ∧ (boxV l)[k * 4 + 3]? = some (.bool x.jam)
  | [], k, u, h => by simp at h
  | a :: r, 0, u, h => by
    simp at h; subst h
    exact ⟨rfl, rfl, rfl, rfl⟩
  | a :: r, k + 1, u, h => by
    have ih := boxV_at (l := r) (k := k) (x := u) (by simpa using h)
    have e : boxV (a :: r) = .int .i64 a.low :: .int .i64 a.size :: .int .i64 a.par :: .bool a.jam :: boxV r := rfl
    rw [e, show (k + 1) * 4 = k * 4 + 1 + 1 + 1 + 1 by omega]
    exact ⟨by simpa using ih.1, by simpa using ih.2.1, by simpa using ih.2.2.1, by simpa using ih.2.2.2⟩

/-- the row lies in a block of its own, at or behind base -/
def OR (w : World) (base : Nat) (e : TypeId) (A : Option Addr) (xs : List Value) : Prop :=
  xs = [] ∨ ∃ g cur, A = some ⟨g, 0, none⟩ ∧ base ≤ g ∧ Has w g e cur ∧ ∀ (j : Nat) (u : Value), xs[j]? = some u → cur[j]? = some u
section
variable {w w' : World} {base B : Nat} {e e' : TypeId} {A A' : Option Addr} {xs ys : List Value}
theorem OR.kept (h : OR w base e A xs) (hk : ∀ g, base ≤ g → g < w.heap.size → w'.heap[g]? = w.heap[g]?) : OR w' base e A xs := by
  rcases h with h | ⟨g, cur, rfl, hb, hh, hc⟩
  · exact .inl h
  · exact .inr ⟨g, cur, rfl, hb, (hk g hb (has_lt hh)).trans hh, hc⟩
theorem OR.below (h : OR w base e A xs) (hb : Below w.heap.size w w') : OR w' base e A xs := h.kept fun g _ hg => hb.block g hg
theorem OR.more (h : OR w base e A xs) (hB : B ≤ base) : OR w B e A xs := by
  rcases h with h | ⟨g, cur, rfl, hb, hh, hc⟩
  · exact .inl h
  · exact .inr ⟨g, cur, rfl, by omega, hh, hc⟩
theorem OR.il {l : List Int} (h : OR w base e A (intV l)) : IL w w.heap.size A l := by
  rcases h with h | ⟨g, cur, rfl, hb, hh, hc⟩
  · exact .inl (by simpa [intV] using h)
  · exact .inr ⟨g, 0, rfl, has_lt hh, fun k x hx => by rw [Nat.zero_add]; exact has_cell hh k (hc _ _ (intV_at hx))⟩
theorem OR.xl {l : List Bx} (h : OR w base e A (boxV l)) : XL w w.heap.size A l := by
  rcases h with h | ⟨g, cur, rfl, hb, hh, hc⟩
  · refine .inl ?_
    have := congrArg List.length h
    rw [boxV_len] at this
    exact List.eq_nil_of_length_eq_zero (by simp only [List.length_nil] at this; omega)
  · refine .inr ⟨g, 0, rfl, has_lt hh, fun k x hx => ?_⟩
    have := boxV_at hx
    rw [Nat.zero_add]
    exact ⟨has_cell hh _ (hc _ _ this.1), has_cell hh _ (hc _ _ this.2.1), has_cell hh _ (hc _ _ this.2.2.1), has_cell hh _ (hc _ _ this.2.2.2)⟩
theorem or_own {v : Value} {size n : Nat} (h : w.ownsRow base e size v n xs) : ∃ A c, v = .slice A n c ∧ OR w base e A xs := by
  obtain ⟨hlen, h⟩ := h
  rcases h with ⟨rfl, rfl⟩ | ⟨g, cap, cur, rfl, hb, hh, h1, h2, h3, h4⟩
  · exact ⟨none, 0, rfl, .inl (List.eq_nil_of_length_eq_zero (by simpa using hlen))⟩
  · refine ⟨_, _, rfl, .inr ⟨g, cur, rfl, hb, hh, fun j u hu => ?_⟩⟩
    rw [← h4, List.getElem?_take] at hu
    split at hu
    · simpa using hu
    · cases hu
/-- only the row's own block has changed -/
def Marks (w : World) (base : Nat) (e : TypeId) (A : Option Addr) (xs : List Value) (w' : World) : Prop :=
  (xs = [] ∧ w' = w) ∨ (xs ≠ [] ∧ ∃ g cur, A = some ⟨g, 0, none⟩ ∧ base ≤ g ∧ Has w g e cur ∧ Only w g w')
theorem Marks.below (h : Marks w base e A xs w') (hB : base ≤ w.heap.size) : Below base w w' := by
  rcases h with ⟨_, rfl⟩ | ⟨_, g, cur, rfl, hb, hh, ho⟩
  · exact Below.refl _ _
  · exact only_below ho hB hb
/-- rows of another kind stay -/
theorem OR.other (h : OR w base e A xs) (hm : Marks w B e' A' ys w') (hne : e ≠ e') : OR w' base e A xs := by
  rcases hm with ⟨_, rfl⟩ | ⟨_, g', cur', rfl, hb', hh', ho⟩
  · exact h
  · rcases h with h | ⟨g, cur, rfl, hb, hh, hc⟩
    · exact .inl h
    · have hgg : g ≠ g' := fun eq => by
        subst eq
        have := hh.symm.trans hh'
        injection this with this; injection this with _ this _
        exact hne this
      exact .inr ⟨g, cur, rfl, hb, (ho.block g (has_lt hh) (fun eq => hgg (by injection eq))).trans hh, hc⟩
/-- rows that lie behind the marked one stay -/
theorem OR.behind (h : OR w base e A xs) (hm : Marks w B e' A' ys w') (hlt : ys = [] ∨ ∀ a, A' = some a → a.block < base) : OR w' base e A xs := by
  rcases hm with ⟨_, rfl⟩ | ⟨hne, g', cur', rfl, hb', hh', ho⟩
  · exact h
  · have hl : g' < base := (hlt.resolve_left hne) _ rfl
    exact h.kept fun g hg hgs => ho.block g hgs (fun eq => by injection eq; omega)
end
/-- n numbers from k on -/
def seqI (k : Int) (n : Nat) : List Int := (List.range n).map fun (j : Nat) => k + (j : Int)
theorem seqI_len (k : Int) (n : Nat) : (seqI k n).length = n := by simp [seqI]
theorem seqI_at {k : Int} {n j : Nat} (h : j < n) : (seqI k n)[j]? = some (k + (j : Int)) := by simp [seqI, h]
def seqB (k : Int) (n : Nat) : List Bx := (List.range n).map fun (j : Nat) => ⟨k + 4 * (j : Int), k + 4 * (j : Int) + 1, k + 4 * (j : Int) + 1 + 1, (k + 4 * (j : Int) + 1 + 1 + 1) % 3 == 0⟩
theorem seqB_len (k : Int) (n : Nat) : (seqB k n).length = n := by simp [seqB]
theorem seqB_at {k : Int} {n j : Nat} (h : j < n) : (seqB k n)[j]? = some ⟨k + 4 * (j : Int), k + 4 * (j : Int) + 1, k + 4 * (j : Int) + 1 + 1, (k + 4 * (j : Int) + 1 + 1 + 1) % 3 == 0⟩ := by simp [seqB, h]
end Go.Proofs.Ythmoonjceokijaa
